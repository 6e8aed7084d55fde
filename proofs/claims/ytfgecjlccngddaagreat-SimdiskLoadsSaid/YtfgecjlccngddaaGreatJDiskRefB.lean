/-
  Joined: DiskRef5, DiskRef6, DiskRef7, DiskRef8.
-/
import Derived.Test.YtfgecjlccngddaaGreatJDiskRefA
namespace Go.Proofs.YtfgecjlccngddaaGreat
set_option linter.unusedSimpArgs false
set_option linter.unusedVariables false
open Go.RowKit
set_option linter.unusedVariables false

set_option maxRecDepth 100000 in
set_option maxHeartbeats 1600000 in
theorem rdsync_any {M : Nat} {D : Dsk} (hD : D.ok M) (hM : M ≤ 199) (a : Option Addr) (c : Nat) (aL : Option Addr) (cL : Nat) (s : ByteArray) (P : Nat → Prop) (w : World) (hP : ∀ b, P b → b < w.heap.size) (hT : Tps w P a D.tp) (hL : LLs w P aL D.L) (hz : a = none → c = 0) :
    Calls Tryz.prog 53 #[dskV D.sec a D.tp.length c aL D.L.length cL D.fu D.calls, .string s] w (RetDE w P (D.sync s)) := by
  by_cases ho : D.fu.off = true
  · have e : D.sync s = (D, 14) := by unfold Dsk.sync; rw [if_pos ho]
    rw [e]
    clear e
    obtain ⟨sec, tp, LL, ⟨p, s0, d0, off⟩, calls⟩ := D
    obtain rfl : off = true := ho
    go_enter Tryz.func53, Tryz.ntmps53
    go_wp2
    refine bodyPost_ret (v := .tuple #[dskV sec a tp.length c aL LL.length cL ⟨p, s0, d0, true⟩ calls, .int .i64 14]) (by simp [results, Tryz.results53, go_sem]) rfl ?_
    exact retDE_mk (D := ⟨sec, tp, LL, ⟨p, s0, d0, true⟩, calls⟩) hP hT hL rfl rfl hz (by exact ((Below.refl _ _).alloc (Nat.le_refl _) _).alloc (by simp) _)
  have ho : D.fu.off = false := by simpa using ho
  have ci := fun (W : World) (h : Below w.heap.size w W) => rdfind_any hD (by omega) a D.tp.length c aL cL s P W (fun b hb => Nat.lt_of_lt_of_le (hP b hb) h.size) (hL.below hP h)
  have hid := D.id_is hD s
  obtain ⟨i, hi⟩ : ∃ i, D.id s = i := ⟨_, rfl⟩
  rw [hi] at ci hid
  have hin := D.t_mem hD i
  have hok := fun (F : Fus) (v : Int) (h : D.fu.call true = (F, v)) => Dsk.ask_ok hD h
  have e : D.sync s = if i = 0 then (D, 8) else Dsk.then (D.ask true) fun E => E.set i ⟨(D.t i).n, (D.t i).n⟩ := by unfold Dsk.sync; rw [if_neg (by rw [ho]; simp), hi]
  obtain ⟨⟨F, v⟩, hF⟩ : ∃ r, D.fu.call true = r := ⟨_, rfl⟩
  have ca := rdask_f hD (by omega) a c aL cL true P w hP hT hL hz F v hF
  rw [e, ask_eq hF]
  have hok := hok F v hF
  have hnT : D.tp.length ≤ 200 := Nat.le_trans hD.2.1 (Nat.le_succ_of_le hM)
  have htd : D.t i = D.tp.getD (i - 1).toNat Tp.none := rfl
  have hLL := hD.2.2.1
  have hw := Dk.start w (dskC D.sec a D.tp.length c aL D.L.length cL D.fu D.calls)
  have T := Lib.hid hT; have L := Lib.hid hL
  obtain ⟨sec, tp, LL, ⟨p, s0, d0, off⟩, calls⟩ := D
  obtain rfl : off = false := ho
  simp only at ca hLL hw ci hok hid hin hnT htd
  have CA := Lib.hid ca; have HW := Lib.hid hw; have HLL := Lib.hid hLL
  have CI := Lib.hid ci; have HOK := Lib.hid hok
  obtain ⟨ti, hti⟩ : ∃ t, Dsk.t ⟨sec, tp, LL, ⟨p, s0, d0, false⟩, calls⟩ i = t := ⟨_, rfl⟩
  rw [hti] at htd ⊢
  have HTD := Lib.hid htd
  clear e ca hLL hw hF hD hT hL ci hi hok hti htd hin
  by_cases hi0 : i = 0
  · subst hi0
    rw [if_pos rfl]
    go_enter Tryz.func53, Tryz.ntmps53
    go_wp2_with fail
    refine (CI.out _ HW.out.1).mono ?_
    rintro e wf ⟨rfl, hbf⟩
    have hdf := HW.out.on hbf
    obtain ⟨⟨lt0, lt1⟩, ⟨b0, b1, b2, b3, b4, b5, b6, b7, q0, q1, q2, q3, q4, q5, q6, q7⟩, ⟨k0, k1, k2, k3, k4, k5, k6, k7, r0, r1, r2, r3, r4, r5, r6, r7⟩⟩ := hdf.facts
    have HDF := Lib.hid hdf
    clear hdf hbf
    go_wp2
    refine bodyPost_ret (v := .tuple #[dskV sec a tp.length c aL LL.length cL ⟨p, s0, d0, false⟩ calls, .int .i64 8]) (by simp [results, Tryz.results53, go_sem, k0, k1, k2, k3, k4, k5, k6, k7]) rfl ?_
    refine retDE_end (n1 := w.heap.size + 2) (D := ⟨sec, tp, LL, ⟨p, s0, d0, false⟩, calls⟩) hP HDF.out.1 ?_ (Nat.le_refl _) ((T.out.below hP HDF.out.1).more fun b hb => .inl hb) ((L.out.below hP HDF.out.1).more fun b hb => .inl hb) hz rfl rfl
    iterate 8 refine Apart.setCell ?_ (.inl (by simp)) _
    exact .refl _ _
  rw [if_neg hi0]
  have t0 : (i == 0) = false := beq_eq_false_iff_ne.2 hi0
  obtain ⟨i1, i2⟩ : 1 ≤ i ∧ i ≤ tp.length := hid.elim (fun h => absurd h.1 hi0) (fun h => ⟨h.1, h.2.1⟩)
  clear hid
  by_cases hv : v = 0
  · subst hv
    rw [then_ok]
    go_enter Tryz.func53, Tryz.ntmps53
    go_wp2_with fail
    refine (CI.out _ HW.out.1).mono ?_
    rintro e wf ⟨rfl, hbf⟩
    have hdf := HW.out.on hbf
    obtain ⟨⟨lt0, lt1⟩, ⟨b0, b1, b2, b3, b4, b5, b6, b7, q0, q1, q2, q3, q4, q5, q6, q7⟩, ⟨k0, k1, k2, k3, k4, k5, k6, k7, r0, r1, r2, r3, r4, r5, r6, r7⟩⟩ := hdf.facts
    have HDF := Lib.hid hdf
    clear hdf hbf
    go_wp2_with fail
    refine (CA.out _ HDF.out.1).mono ?_
    rintro e w1 ⟨a1, c1, aL1, cL1, rfl, hT1, hL1, hz1, hb1⟩
    have hd1 := HDF.out.on hb1
    clear lt0 lt1 b0 b1 b2 b3 b4 b5 b6 b7 q0 q1 q2 q3 q4 q5 q6 q7 k0 k1 k2 k3 k4 k5 k6 k7 r0 r1 r2 r3 r4 r5 r6 r7
    obtain ⟨⟨lt0, lt1⟩, ⟨b0, b1, b2, b3, b4, b5, b6, b7, q0, q1, q2, q3, q4, q5, q6, q7⟩, ⟨k0, k1, k2, k3, k4, k5, k6, k7, r0, r1, r2, r3, r4, r5, r6, r7⟩⟩ := hd1.facts
    have HD1 := Lib.hid hd1
    have T1 := Lib.hid (hT1.more (grow_low HDF.out.lt.2)); have L1 := Lib.hid (hL1.more (grow_low HDF.out.lt.2))
    have HB1 := Lib.hid hb1
    clear hd1 hT1 hL1 hb1
    obtain ⟨ad, m, rfl, rfl, hm, hadb, z0, z1⟩ := T1.out.get i i1 i2
    rw [← HTD.out] at z0 z1
    have hk1 := keep2 hP HD1.out.1.size (put8_apart [w.heap.size, w.heap.size + 1] w1 w.heap.size (by simp) sec (some ad) tp.length c1 aL1 LL.length cL1 F (calls + 1)) (Nat.le_refl _)
    have z2 := (hk1 ⟨(ad.add (m * 2)).block, (ad.add (m * 2)).off + 1, none⟩ (by show Grow _ _ _ (ad.add (m * 2)).block; rw [add_block]; exact hadb)).trans z1
    unfold put8 at z2
    have d0' : (0 : Int) ≤ (m : Int) := by omega
    have d1' : (m : Int) < (tp.length : Int) := by omega
    have y1 : IntKind.i64.wrap (m : Int) = (m : Int) := IntWalk.i64_in _ (by omega)
    go_wp2_with fail
    clear lt0 lt1 b0 b1 b2 b3 b4 b5 b6 b7 q0 q1 q2 q3 q4 q5 q6 q7 k0 k1 k2 k3 k4 k5 k6 k7 r0 r1 r2 r3 r4 r5 r6 r7
    have hp1 : ∀ b, Grow P (w.heap.size + 2) w1.heap.size b → b < (put8 w1 w.heap.size sec (some ad) tp.length c1 aL1 LL.length cL1 F (calls + 1)).heap.size := fun b hb => by simpa using grow_lt hP HD1.out.1.size b hb
    have ct := rdtape_any HOK.out (by omega) (some ad) c1 aL1 cL1 ((m : Int) + 1) i1 i2 ⟨ti.n, ti.n⟩ _ (put8 w1 w.heap.size sec (some ad) tp.length c1 aL1 LL.length cL1 F (calls + 1)) hp1 (T1.out.keep hk1) (L1.out.keep hk1)
    obtain ⟨D2, hD2⟩ : ∃ D2, Dsk.set ⟨sec, tp, LL, F, calls + 1⟩ ((m : Int) + 1) ⟨ti.n, ti.n⟩ = D2 := ⟨_, rfl⟩
    rw [hD2] at ct
    have HDE := Lib.hid hD2
    refine ct.mono ?_
    rintro e w2 ⟨dv, rfl, ⟨a2, c2, aL2, cL2, rfl, hT2, hL2, hz2⟩, hb2⟩
    have hd2 := (HD1.out.put sec (some ad) tp.length c1 aL1 LL.length cL1 F (calls + 1)).on hb2
    have hs2 := HD1.out.lt.2
    obtain ⟨⟨lt0, lt1⟩, ⟨b0, b1, b2, b3, b4, b5, b6, b7, q0, q1, q2, q3, q4, q5, q6, q7⟩, ⟨k0, k1, k2, k3, k4, k5, k6, k7, r0, r1, r2, r3, r4, r5, r6, r7⟩⟩ := hd2.facts
    have ht2 := hT2.more (B' := Grow P (w.heap.size + 2) w2.heap.size) (fun b hb => grow_grow hs2 (by have := hb2.size; simpa using this) b (by simpa using hb))
    have hl2 := hL2.more (B' := Grow P (w.heap.size + 2) w2.heap.size) (fun b hb => grow_grow hs2 (by have := hb2.size; simpa using this) b (by simpa using hb))
    have HD2 := Lib.hid hd2; have T2 := Lib.hid ht2; have L2 := Lib.hid hl2
    clear hd2 ht2 hl2 hL2 hT2 hb2 hp1 hk1 hD2 ct z0 z1 z2
    go_wp2
    refine bodyPost_ret (v := .tuple #[dskV D2.sec a2 D2.tp.length c2 aL2 D2.L.length cL2 D2.fu D2.calls, .int .i64 0]) (by simp [results, Tryz.results53, go_sem, k0, k1, k2, k3, k4, k5, k6, k7]) rfl ?_
    rw [HDE.out]
    refine retDE_end (n1 := w.heap.size + 2) (D := D2) hP HD2.out.1 ?_ (Nat.le_refl _) T2.out L2.out hz2 rfl rfl
    iterate 8 refine Apart.setCell ?_ (.inl (by simp)) _
    exact .refl _ _
  · rw [then_no _ _ _ hv]
    have t1 : (v == 0) = false := beq_eq_false_iff_ne.2 hv
    go_enter Tryz.func53, Tryz.ntmps53
    go_wp2_with fail
    refine (CI.out _ HW.out.1).mono ?_
    rintro e wf ⟨rfl, hbf⟩
    have hdf := HW.out.on hbf
    obtain ⟨⟨lt0, lt1⟩, ⟨b0, b1, b2, b3, b4, b5, b6, b7, q0, q1, q2, q3, q4, q5, q6, q7⟩, ⟨k0, k1, k2, k3, k4, k5, k6, k7, r0, r1, r2, r3, r4, r5, r6, r7⟩⟩ := hdf.facts
    have HDF := Lib.hid hdf
    clear hdf hbf
    go_wp2_with fail
    refine (CA.out _ HDF.out.1).mono ?_
    rintro e w1 ⟨a1, c1, aL1, cL1, rfl, hT1, hL1, hz1, hb1⟩
    have hd1 := HDF.out.on hb1
    clear lt0 lt1 b0 b1 b2 b3 b4 b5 b6 b7 q0 q1 q2 q3 q4 q5 q6 q7 k0 k1 k2 k3 k4 k5 k6 k7 r0 r1 r2 r3 r4 r5 r6 r7
    obtain ⟨⟨lt0, lt1⟩, ⟨b0, b1, b2, b3, b4, b5, b6, b7, q0, q1, q2, q3, q4, q5, q6, q7⟩, ⟨k0, k1, k2, k3, k4, k5, k6, k7, r0, r1, r2, r3, r4, r5, r6, r7⟩⟩ := hd1.facts
    have HD1 := Lib.hid hd1
    have T1 := Lib.hid (hT1.more (grow_low HDF.out.lt.2)); have L1 := Lib.hid (hL1.more (grow_low HDF.out.lt.2))
    have HB1 := Lib.hid hb1
    clear hd1 hT1 hL1 hb1
    go_wp2
    refine bodyPost_ret (v := .tuple #[dskV sec a1 tp.length c1 aL1 LL.length cL1 F (calls + 1), .int .i64 v]) (by simp [results, Tryz.results53, go_sem, k0, k1, k2, k3, k4, k5, k6, k7]) rfl ?_
    refine retDE_end (D := ⟨sec, tp, LL, F, calls + 1⟩) hP HD1.out.1 ?_ (Nat.le_refl _) T1.out L1.out hz1 rfl rfl
    iterate 16 refine Apart.setCell ?_ (.inl (by simp)) _
    exact .refl _ _

set_option maxRecDepth 100000 in
set_option maxHeartbeats 1600000 in
theorem rdcut_any {M : Nat} {D : Dsk} (hD : D.ok M) (hM : M ≤ 199) (a : Option Addr) (c : Nat) (aL : Option Addr) (cL : Nat) (s : ByteArray) (n : Int) (P : Nat → Prop) (w : World) (hP : ∀ b, P b → b < w.heap.size) (hT : Tps w P a D.tp) (hL : LLs w P aL D.L) (hz : a = none → c = 0) :
    Calls Tryz.prog 116 #[dskV D.sec a D.tp.length c aL D.L.length cL D.fu D.calls, .string s, .int .i64 n] w (RetDE w P (D.cut s n)) := by
  by_cases ho : D.fu.off = true
  · have e : D.cut s n = (D, 14) := by unfold Dsk.cut; rw [if_pos ho]
    rw [e]
    clear e
    obtain ⟨sec, tp, LL, ⟨p, s0, d0, off⟩, calls⟩ := D
    obtain rfl : off = true := ho
    go_enter Tryz.func116, Tryz.ntmps116
    go_wp2
    refine bodyPost_ret (v := .tuple #[dskV sec a tp.length c aL LL.length cL ⟨p, s0, d0, true⟩ calls, .int .i64 14]) (by simp [results, Tryz.results116, go_sem]) rfl ?_
    exact retDE_mk (D := ⟨sec, tp, LL, ⟨p, s0, d0, true⟩, calls⟩) hP hT hL rfl rfl hz (by exact ((Below.refl _ _).alloc (Nat.le_refl _) _).alloc (by simp) _)
  have ho : D.fu.off = false := by simpa using ho
  have ci := fun (W : World) (h : Below w.heap.size w W) => rdfind_any hD (by omega) a D.tp.length c aL cL s P W (fun b hb => Nat.lt_of_lt_of_le (hP b hb) h.size) (hL.below hP h)
  have hid := D.id_is hD s
  obtain ⟨i, hi⟩ : ∃ i, D.id s = i := ⟨_, rfl⟩
  rw [hi] at ci hid
  have hok := fun (F : Fus) (v : Int) (h : D.fu.call false = (F, v)) => Dsk.ask_ok hD h
  have e : D.cut s n = if i = 0 then (D, 8) else if n < 0 ∨ ((D.t i).n.size : Int) < n then (D, 3) else Dsk.then (D.ask false) fun E => E.set i ⟨(D.t i).k, (D.t i).n.extract 0 n.toNat⟩ := by unfold Dsk.cut; rw [if_neg (by rw [ho]; simp), hi]
  obtain ⟨⟨F, v⟩, hF⟩ : ∃ r, D.fu.call false = r := ⟨_, rfl⟩
  have ca := rdask_f hD (by omega) a c aL cL false P w hP hT hL hz F v hF
  rw [e, ask_eq hF]
  have hok := hok F v hF
  have hnT : D.tp.length ≤ 200 := Nat.le_trans hD.2.1 (Nat.le_succ_of_le hM)
  have htd : D.t i = D.tp.getD (i - 1).toNat Tp.none := rfl
  have hts := D.t_size hD i
  have hLL := hD.2.2.1
  have hw := Dk.start w (dskC D.sec a D.tp.length c aL D.L.length cL D.fu D.calls)
  have T := Lib.hid hT; have L := Lib.hid hL
  obtain ⟨sec, tp, LL, ⟨p, s0, d0, off⟩, calls⟩ := D
  obtain rfl : off = false := ho
  simp only at ca hLL hw ci hok hid hnT htd hts
  have CA := Lib.hid ca; have HW := Lib.hid hw; have HLL := Lib.hid hLL
  have CI := Lib.hid ci; have HOK := Lib.hid hok
  obtain ⟨ti, hti⟩ : ∃ t, Dsk.t ⟨sec, tp, LL, ⟨p, s0, d0, false⟩, calls⟩ i = t := ⟨_, rfl⟩
  rw [hti] at htd hts ⊢
  have HTD := Lib.hid htd
  clear e ca hLL hw hF hD hT hL ci hi hok hti htd
  by_cases hi0 : i = 0
  · subst hi0
    rw [if_pos rfl]
    go_enter Tryz.func116, Tryz.ntmps116
    go_wp2_with fail
    refine (CI.out _ HW.out.1).mono ?_
    rintro e wf ⟨rfl, hbf⟩
    have hdf := HW.out.on hbf
    obtain ⟨⟨lt0, lt1⟩, ⟨b0, b1, b2, b3, b4, b5, b6, b7, q0, q1, q2, q3, q4, q5, q6, q7⟩, ⟨k0, k1, k2, k3, k4, k5, k6, k7, r0, r1, r2, r3, r4, r5, r6, r7⟩⟩ := hdf.facts
    have HDF := Lib.hid hdf
    clear hdf hbf
    go_wp2
    refine bodyPost_ret (v := .tuple #[dskV sec a tp.length c aL LL.length cL ⟨p, s0, d0, false⟩ calls, .int .i64 8]) (by simp [results, Tryz.results116, go_sem, k0, k1, k2, k3, k4, k5, k6, k7]) rfl ?_
    refine retDE_end (n1 := w.heap.size + 2) (D := ⟨sec, tp, LL, ⟨p, s0, d0, false⟩, calls⟩) hP HDF.out.1 ?_ (Nat.le_refl _) ((T.out.below hP HDF.out.1).more fun b hb => .inl hb) ((L.out.below hP HDF.out.1).more fun b hb => .inl hb) hz rfl rfl
    iterate 8 refine Apart.setCell ?_ (.inl (by simp)) _
    exact .refl _ _
  rw [if_neg hi0]
  have t0 : (i == 0) = false := beq_eq_false_iff_ne.2 hi0
  obtain ⟨i1, i2⟩ : 1 ≤ i ∧ i ≤ tp.length := hid.elim (fun h => absurd h.1 hi0) (fun h => ⟨h.1, h.2.1⟩)
  obtain ⟨sz1, sz2⟩ := hts i1 i2
  clear hid hts
  by_cases hn : n < 0 ∨ (ti.n.size : Int) < n
  · rw [if_pos hn]
    have cc := fun W => rtcut_no ti.k ti.n n hn W
    have CC := Lib.hid cc
    clear cc hn
    go_enter Tryz.func116, Tryz.ntmps116
    go_wp2_with fail
    refine (CI.out _ HW.out.1).mono ?_
    rintro e wf ⟨rfl, hbf⟩
    have hdf := HW.out.on hbf
    obtain ⟨⟨lt0, lt1⟩, ⟨b0, b1, b2, b3, b4, b5, b6, b7, q0, q1, q2, q3, q4, q5, q6, q7⟩, ⟨k0, k1, k2, k3, k4, k5, k6, k7, r0, r1, r2, r3, r4, r5, r6, r7⟩⟩ := hdf.facts
    have HDF := Lib.hid hdf
    clear hdf hbf
    obtain ⟨ad, m, rfl, rfl, hm, hadb, z0, z1⟩ := (T.out.below hP HDF.out.1).get i i1 i2
    rw [← HTD.out] at z0 z1
    have d0' : (0 : Int) ≤ (m : Int) := by omega
    have d1' : (m : Int) < (tp.length : Int) := by omega
    have y1 : IntKind.i64.wrap (m : Int) = (m : Int) := IntWalk.i64_in _ (by omega)
    go_wp2_with fail
    refine (CC.out _).mono ?_
    rintro e wc ⟨rfl, hbc⟩
    have hdc := HDF.out.on hbc
    clear lt0 lt1 b0 b1 b2 b3 b4 b5 b6 b7 q0 q1 q2 q3 q4 q5 q6 q7 k0 k1 k2 k3 k4 k5 k6 k7 r0 r1 r2 r3 r4 r5 r6 r7
    obtain ⟨⟨lt0, lt1⟩, ⟨b0, b1, b2, b3, b4, b5, b6, b7, q0, q1, q2, q3, q4, q5, q6, q7⟩, ⟨k0, k1, k2, k3, k4, k5, k6, k7, r0, r1, r2, r3, r4, r5, r6, r7⟩⟩ := hdc.facts
    have HDC := Lib.hid hdc
    clear hdc hbc z0 z1
    go_wp2
    refine bodyPost_ret (v := .tuple #[dskV sec (some ad) tp.length c aL LL.length cL ⟨p, s0, d0, false⟩ calls, .int .i64 3]) (by simp [results, Tryz.results116, go_sem, k0, k1, k2, k3, k4, k5, k6, k7, lt1]) rfl ?_
    refine retDE_end (n1 := w.heap.size + 2) (D := ⟨sec, tp, LL, ⟨p, s0, d0, false⟩, calls⟩) hP HDC.out.1 ?_ (Nat.le_refl _) ((T.out.below hP HDC.out.1).more fun b hb => .inl hb) ((L.out.below hP HDC.out.1).more fun b hb => .inl hb) hz rfl rfl
    refine Apart.alloc ?_ _
    iterate 8 refine Apart.setCell ?_ (.inl (by simp)) _
    exact .refl _ _
  rw [if_neg hn]
  obtain ⟨n, rfl⟩ := Int.eq_ofNat_of_zero_le (show 0 ≤ n by omega)
  have hn2 : n ≤ ti.n.size := by omega
  have cc := fun W => rtcut_yes ti.k ti.n (by omega) n hn2 W
  rw [show ((n : Int)).toNat = n from rfl] at *
  obtain ⟨tn, htn⟩ : ∃ tn, ti.n.extract 0 n = tn := ⟨_, rfl⟩
  rw [htn] at cc ⊢
  have CC := Lib.hid cc
  clear cc hn htn
  by_cases hv : v = 0
  · subst hv
    rw [then_ok]
    go_enter Tryz.func116, Tryz.ntmps116
    go_wp2_with fail
    refine (CI.out _ HW.out.1).mono ?_
    rintro e wf ⟨rfl, hbf⟩
    have hdf := HW.out.on hbf
    obtain ⟨⟨lt0, lt1⟩, ⟨b0, b1, b2, b3, b4, b5, b6, b7, q0, q1, q2, q3, q4, q5, q6, q7⟩, ⟨k0, k1, k2, k3, k4, k5, k6, k7, r0, r1, r2, r3, r4, r5, r6, r7⟩⟩ := hdf.facts
    have HDF := Lib.hid hdf
    clear hdf hbf
    obtain ⟨ad, m, rfl, rfl, hm, hadb, z0, z1⟩ := (T.out.below hP HDF.out.1).get i i1 i2
    rw [← HTD.out] at z0 z1
    have d0' : (0 : Int) ≤ (m : Int) := by omega
    have d1' : (m : Int) < (tp.length : Int) := by omega
    have y1 : IntKind.i64.wrap (m : Int) = (m : Int) := IntWalk.i64_in _ (by omega)
    go_wp2_with fail
    refine (CC.out _).mono ?_
    rintro e wc ⟨rfl, hbc⟩
    have hdc := HDF.out.on hbc
    clear lt0 lt1 b0 b1 b2 b3 b4 b5 b6 b7 q0 q1 q2 q3 q4 q5 q6 q7 k0 k1 k2 k3 k4 k5 k6 k7 r0 r1 r2 r3 r4 r5 r6 r7
    obtain ⟨⟨lt0, lt1⟩, ⟨b0, b1, b2, b3, b4, b5, b6, b7, q0, q1, q2, q3, q4, q5, q6, q7⟩, ⟨k0, k1, k2, k3, k4, k5, k6, k7, r0, r1, r2, r3, r4, r5, r6, r7⟩⟩ := hdc.facts
    have HDC := Lib.hid hdc
    clear hdc hbc z0 z1
    go_wp2_with fail
    have hda := HDC.out.on ((Below.refl _ _).alloc (Nat.le_refl _) (.cells #[.string ti.k, .string tn] 104))
    have hlc := HDC.out.lt
    have HDA := Lib.hid hda; have BT := Lib.hid (Blk.new wc #[.string ti.k, .string tn] 104)
    clear hda
    go_wp2_with fail
    refine (CA.out _ HDA.out.1).mono ?_
    rintro e w1 ⟨a1, c1, aL1, cL1, rfl, hT1, hL1, hz1, hb1⟩
    have hd1 := HDA.out.on hb1
    clear lt0 lt1 b0 b1 b2 b3 b4 b5 b6 b7 q0 q1 q2 q3 q4 q5 q6 q7 k0 k1 k2 k3 k4 k5 k6 k7 r0 r1 r2 r3 r4 r5 r6 r7
    obtain ⟨⟨lt0, lt1⟩, ⟨b0, b1, b2, b3, b4, b5, b6, b7, q0, q1, q2, q3, q4, q5, q6, q7⟩, ⟨k0, k1, k2, k3, k4, k5, k6, k7, r0, r1, r2, r3, r4, r5, r6, r7⟩⟩ := hd1.facts
    have HD1 := Lib.hid hd1
    have T1 := Lib.hid (hT1.more (grow_low HDA.out.lt.2)); have L1 := Lib.hid (hL1.more (grow_low HDA.out.lt.2))
    have HB1 := Lib.hid hb1
    clear hd1 hT1 hL1 hb1
    have hbt := BT.out.onto HB1.out
    have u0 := hbt.cell 0 _ rfl
    have u1 := hbt.cell 1 _ rfl
    have n0 : w.heap.size ≠ wc.heap.size := Nat.ne_of_lt hlc.1
    have n1 : w.heap.size + 1 ≠ wc.heap.size := Nat.ne_of_lt hlc.2
    clear hbt
    obtain ⟨ad1, rfl⟩ : ∃ ad1, a1 = some ad1 := by obtain ⟨x, _, h, _⟩ := T1.out.get _ i1 i2; exact ⟨x, h⟩
    have hk1 := keep2 hP HD1.out.1.size (put8_apart [w.heap.size, w.heap.size + 1] w1 w.heap.size (by simp) sec (some ad1) tp.length c1 aL1 LL.length cL1 F (calls + 1)) (Nat.le_refl _)
    go_wp2_with fail
    clear lt0 lt1 b0 b1 b2 b3 b4 b5 b6 b7 q0 q1 q2 q3 q4 q5 q6 q7 k0 k1 k2 k3 k4 k5 k6 k7 r0 r1 r2 r3 r4 r5 r6 r7
    have hp1 : ∀ b, Grow P (w.heap.size + 2) w1.heap.size b → b < (put8 w1 w.heap.size sec (some ad1) tp.length c1 aL1 LL.length cL1 F (calls + 1)).heap.size := fun b hb => by simpa using grow_lt hP HD1.out.1.size b hb
    have ct := rdtape_any HOK.out (by omega) (some ad1) c1 aL1 cL1 ((m : Int) + 1) i1 i2 ⟨ti.k, tn⟩ _ (put8 w1 w.heap.size sec (some ad1) tp.length c1 aL1 LL.length cL1 F (calls + 1)) hp1 (T1.out.keep hk1) (L1.out.keep hk1)
    obtain ⟨D2, hD2⟩ : ∃ D2, Dsk.set ⟨sec, tp, LL, F, calls + 1⟩ ((m : Int) + 1) ⟨ti.k, tn⟩ = D2 := ⟨_, rfl⟩
    rw [hD2] at ct
    have HDE := Lib.hid hD2
    refine ct.mono ?_
    rintro e w2 ⟨dv, rfl, ⟨a2, c2, aL2, cL2, rfl, hT2, hL2, hz2⟩, hb2⟩
    have hd2 := (HD1.out.put sec (some ad1) tp.length c1 aL1 LL.length cL1 F (calls + 1)).on hb2
    have hs2 := HD1.out.lt.2
    obtain ⟨⟨lt0, lt1⟩, ⟨b0, b1, b2, b3, b4, b5, b6, b7, q0, q1, q2, q3, q4, q5, q6, q7⟩, ⟨k0, k1, k2, k3, k4, k5, k6, k7, r0, r1, r2, r3, r4, r5, r6, r7⟩⟩ := hd2.facts
    have ht2 := hT2.more (B' := Grow P (w.heap.size + 2) w2.heap.size) (fun b hb => grow_grow hs2 (by have := hb2.size; simpa using this) b (by simpa using hb))
    have hl2 := hL2.more (B' := Grow P (w.heap.size + 2) w2.heap.size) (fun b hb => grow_grow hs2 (by have := hb2.size; simpa using this) b (by simpa using hb))
    have HD2 := Lib.hid hd2; have T2 := Lib.hid ht2; have L2 := Lib.hid hl2
    clear hd2 ht2 hl2 hL2 hT2 hb2 hp1 hk1 hD2 ct u0 u1 n0 n1
    go_wp2
    refine bodyPost_ret (v := .tuple #[dskV D2.sec a2 D2.tp.length c2 aL2 D2.L.length cL2 D2.fu D2.calls, .int .i64 0]) (by simp [results, Tryz.results116, go_sem, k0, k1, k2, k3, k4, k5, k6, k7]) rfl ?_
    rw [HDE.out]
    refine retDE_end (n1 := w.heap.size + 2) (D := D2) hP HD2.out.1 ?_ (Nat.le_refl _) T2.out L2.out hz2 rfl rfl
    iterate 8 refine Apart.setCell ?_ (.inl (by simp)) _
    exact .refl _ _
  · rw [then_no _ _ _ hv]
    have t1 : (v == 0) = false := beq_eq_false_iff_ne.2 hv
    go_enter Tryz.func116, Tryz.ntmps116
    go_wp2_with fail
    refine (CI.out _ HW.out.1).mono ?_
    rintro e wf ⟨rfl, hbf⟩
    have hdf := HW.out.on hbf
    obtain ⟨⟨lt0, lt1⟩, ⟨b0, b1, b2, b3, b4, b5, b6, b7, q0, q1, q2, q3, q4, q5, q6, q7⟩, ⟨k0, k1, k2, k3, k4, k5, k6, k7, r0, r1, r2, r3, r4, r5, r6, r7⟩⟩ := hdf.facts
    have HDF := Lib.hid hdf
    clear hdf hbf
    obtain ⟨ad, m, rfl, rfl, hm, hadb, z0, z1⟩ := (T.out.below hP HDF.out.1).get i i1 i2
    rw [← HTD.out] at z0 z1
    have d0' : (0 : Int) ≤ (m : Int) := by omega
    have d1' : (m : Int) < (tp.length : Int) := by omega
    have y1 : IntKind.i64.wrap (m : Int) = (m : Int) := IntWalk.i64_in _ (by omega)
    go_wp2_with fail
    refine (CC.out _).mono ?_
    rintro e wc ⟨rfl, hbc⟩
    have hdc := HDF.out.on hbc
    clear lt0 lt1 b0 b1 b2 b3 b4 b5 b6 b7 q0 q1 q2 q3 q4 q5 q6 q7 k0 k1 k2 k3 k4 k5 k6 k7 r0 r1 r2 r3 r4 r5 r6 r7
    obtain ⟨⟨lt0, lt1⟩, ⟨b0, b1, b2, b3, b4, b5, b6, b7, q0, q1, q2, q3, q4, q5, q6, q7⟩, ⟨k0, k1, k2, k3, k4, k5, k6, k7, r0, r1, r2, r3, r4, r5, r6, r7⟩⟩ := hdc.facts
    have HDC := Lib.hid hdc
    clear hdc hbc z0 z1
    go_wp2_with fail
    have hda := HDC.out.on ((Below.refl _ _).alloc (Nat.le_refl _) (.cells #[.string ti.k, .string tn] 104))
    have hlc := HDC.out.lt
    have HDA := Lib.hid hda; have BT := Lib.hid (Blk.new wc #[.string ti.k, .string tn] 104)
    clear hda
    go_wp2_with fail
    refine (CA.out _ HDA.out.1).mono ?_
    rintro e w1 ⟨a1, c1, aL1, cL1, rfl, hT1, hL1, hz1, hb1⟩
    have hd1 := HDA.out.on hb1
    clear lt0 lt1 b0 b1 b2 b3 b4 b5 b6 b7 q0 q1 q2 q3 q4 q5 q6 q7 k0 k1 k2 k3 k4 k5 k6 k7 r0 r1 r2 r3 r4 r5 r6 r7
    obtain ⟨⟨lt0, lt1⟩, ⟨b0, b1, b2, b3, b4, b5, b6, b7, q0, q1, q2, q3, q4, q5, q6, q7⟩, ⟨k0, k1, k2, k3, k4, k5, k6, k7, r0, r1, r2, r3, r4, r5, r6, r7⟩⟩ := hd1.facts
    have HD1 := Lib.hid hd1
    have T1 := Lib.hid (hT1.more (grow_low HDA.out.lt.2)); have L1 := Lib.hid (hL1.more (grow_low HDA.out.lt.2))
    have HB1 := Lib.hid hb1
    clear hd1 hT1 hL1 hb1
    go_wp2
    refine bodyPost_ret (v := .tuple #[dskV sec a1 tp.length c1 aL1 LL.length cL1 F (calls + 1), .int .i64 v]) (by simp [results, Tryz.results116, go_sem, k0, k1, k2, k3, k4, k5, k6, k7]) rfl ?_
    refine retDE_end (D := ⟨sec, tp, LL, F, calls + 1⟩) hP HD1.out.1 ?_ (Nat.le_refl _) T1.out L1.out hz1 rfl rfl
    iterate 16 refine Apart.setCell ?_ (.inl (by simp)) _
    exact .refl _ _
end Go.Proofs.YtfgecjlccngddaaGreat
namespace Go.Proofs.YtfgecjlccngddaaGreat
set_option linter.unusedSimpArgs false
set_option linter.unusedVariables false
open Go.RowKit
set_option linter.unusedVariables false

set_option maxRecDepth 100000 in
set_option maxHeartbeats 1600000 in
theorem rdappend_any {M : Nat} {D : Dsk} (hD : D.ok M) (hM : M ≤ 199) (a : Option Addr) (c : Nat) (aL : Option Addr) (cL : Nat) (s b : ByteArray) (hb : b.size ≤ 200) (P : Nat → Prop) (w : World) (hP : ∀ b, P b → b < w.heap.size) (hT : Tps w P a D.tp) (hL : LLs w P aL D.L) (hz : a = none → c = 0) :
    Calls Tryz.prog 115 #[dskV D.sec a D.tp.length c aL D.L.length cL D.fu D.calls, .string s, .string b] w (RetDE w P (D.append s b)) := by
  by_cases ho : D.fu.off = true
  · have e : D.append s b = (D, 14) := by unfold Dsk.append; rw [if_pos ho]
    rw [e]
    clear e
    obtain ⟨sec, tp, LL, ⟨p, s0, d0, off⟩, calls⟩ := D
    obtain rfl : off = true := ho
    go_enter Tryz.func115, Tryz.ntmps115
    go_wp2
    refine bodyPost_ret (v := .tuple #[dskV sec a tp.length c aL LL.length cL ⟨p, s0, d0, true⟩ calls, .int .i64 14]) (by simp [results, Tryz.results115, go_sem]) rfl ?_
    exact retDE_mk (D := ⟨sec, tp, LL, ⟨p, s0, d0, true⟩, calls⟩) hP hT hL rfl rfl hz (by exact ((Below.refl _ _).alloc (Nat.le_refl _) _).alloc (by simp) _)
  have ho : D.fu.off = false := by simpa using ho
  have ci := fun (W : World) (h : Below w.heap.size w W) => rdfind_any hD (by omega) a D.tp.length c aL cL s P W (fun b hb => Nat.lt_of_lt_of_le (hP b hb) h.size) (hL.below hP h)
  have hid := D.id_is hD s
  obtain ⟨i, hi⟩ : ∃ i, D.id s = i := ⟨_, rfl⟩
  rw [hi] at ci hid
  have hok := fun (F : Fus) (v : Int) (h : D.fu.call false = (F, v)) => Dsk.ask_ok hD h
  have e : D.append s b = if i = 0 then (D, 8) else if (D.set i ⟨(D.t i).k, (D.t i).n ++ b⟩).free < 0 then (D, 12) else Dsk.then (D.ask false) fun E => E.set i ⟨(D.t i).k, (D.t i).n ++ b⟩ := by unfold Dsk.append; rw [if_neg (by rw [ho]; simp), hi]
  obtain ⟨⟨F, v⟩, hF⟩ : ∃ r, D.fu.call false = r := ⟨_, rfl⟩
  have ca := rdask_f hD (by omega) a c aL cL false P w hP hT hL hz F v hF
  rw [e, ask_eq hF]
  have hok := hok F v hF
  have hnT : D.tp.length ≤ 200 := Nat.le_trans hD.2.1 (Nat.le_succ_of_le hM)
  have htd : D.t i = D.tp.getD (i - 1).toNat Tp.none := rfl
  have hts := D.t_size hD i
  have hD0 := hD
  have hLL := hD.2.2.1
  have hw := Dk.start w (dskC D.sec a D.tp.length c aL D.L.length cL D.fu D.calls)
  have T := Lib.hid hT; have L := Lib.hid hL
  obtain ⟨sec, tp, LL, ⟨p, s0, d0, off⟩, calls⟩ := D
  obtain rfl : off = false := ho
  simp only at ca hLL hw ci hok hid hnT htd hts
  have CA := Lib.hid ca; have HW := Lib.hid hw; have HLL := Lib.hid hLL
  have CI := Lib.hid ci; have HOK := Lib.hid hok; have HD0 := Lib.hid hD0
  obtain ⟨ti, hti⟩ : ∃ t, Dsk.t ⟨sec, tp, LL, ⟨p, s0, d0, false⟩, calls⟩ i = t := ⟨_, rfl⟩
  rw [hti] at htd hts ⊢
  have HTD := Lib.hid htd
  clear e ca hLL hw hF hD hT hL ci hi hok hti htd hD0
  by_cases hi0 : i = 0
  · subst hi0
    rw [if_pos rfl]
    go_enter Tryz.func115, Tryz.ntmps115
    go_wp2_with fail
    refine (CI.out _ HW.out.1).mono ?_
    rintro e wf ⟨rfl, hbf⟩
    have hdf := HW.out.on hbf
    obtain ⟨⟨lt0, lt1⟩, ⟨b0, b1, b2, b3, b4, b5, b6, b7, q0, q1, q2, q3, q4, q5, q6, q7⟩, ⟨k0, k1, k2, k3, k4, k5, k6, k7, r0, r1, r2, r3, r4, r5, r6, r7⟩⟩ := hdf.facts
    have HDF := Lib.hid hdf
    clear hdf hbf
    go_wp2
    refine bodyPost_ret (v := .tuple #[dskV sec a tp.length c aL LL.length cL ⟨p, s0, d0, false⟩ calls, .int .i64 8]) (by simp [results, Tryz.results115, go_sem, k0, k1, k2, k3, k4, k5, k6, k7]) rfl ?_
    refine retDE_end (n1 := w.heap.size + 2) (D := ⟨sec, tp, LL, ⟨p, s0, d0, false⟩, calls⟩) hP HDF.out.1 ?_ (Nat.le_refl _) ((T.out.below hP HDF.out.1).more fun b hb => .inl hb) ((L.out.below hP HDF.out.1).more fun b hb => .inl hb) hz rfl rfl
    iterate 8 refine Apart.setCell ?_ (.inl (by simp)) _
    exact .refl _ _
  rw [if_neg hi0]
  have t0 : (i == 0) = false := beq_eq_false_iff_ne.2 hi0
  obtain ⟨i1, i2⟩ : 1 ≤ i ∧ i ≤ tp.length := hid.elim (fun h => absurd h.1 hi0) (fun h => ⟨h.1, h.2.1⟩)
  obtain ⟨sz1, sz2⟩ := hts i1 i2
  clear hid hts
  obtain ⟨D1, hD1⟩ : ∃ D1, Dsk.set ⟨sec, tp, LL, ⟨p, s0, d0, false⟩, calls⟩ i ⟨ti.k, ti.n ++ b⟩ = D1 := ⟨_, rfl⟩
  rw [hD1]
  have HFR := Lib.hid hD1
  clear hD1
  by_cases hfr : D1.free < 0
  · rw [if_pos hfr]
    go_enter Tryz.func115, Tryz.ntmps115
    go_wp2_with fail
    refine (CI.out _ HW.out.1).mono ?_
    rintro e wf ⟨rfl, hbf⟩
    have hdf := HW.out.on hbf
    obtain ⟨⟨lt0, lt1⟩, ⟨b0, b1, b2, b3, b4, b5, b6, b7, q0, q1, q2, q3, q4, q5, q6, q7⟩, ⟨k0, k1, k2, k3, k4, k5, k6, k7, r0, r1, r2, r3, r4, r5, r6, r7⟩⟩ := hdf.facts
    have HDF := Lib.hid hdf
    clear hdf hbf
    obtain ⟨ad, m, rfl, rfl, hm, hadb, z0, z1⟩ := (T.out.below hP HDF.out.1).get i i1 i2
    rw [← HTD.out] at z0 z1
    have d0' : (0 : Int) ≤ (m : Int) := by omega
    have d1' : (m : Int) < (tp.length : Int) := by omega
    have y1 : IntKind.i64.wrap (m : Int) = (m : Int) := IntWalk.i64_in _ (by omega)
    go_wp2_with fail
    have hda := HDF.out.on ((Below.refl _ _).alloc (Nat.le_refl _) (.cells #[.string ti.k, .string (ti.n ++ b)] 104))
    have ct := rdtape_any HD0.out (by omega) (some ad) c aL cL ((m : Int) + 1) i1 i2 ⟨ti.k, ti.n ++ b⟩ P (wf.alloc (.cells #[.string ti.k, .string (ti.n ++ b)] 104)) (fun b hb => Nat.lt_of_lt_of_le (hP b hb) hda.1.size) (T.out.below hP hda.1) (L.out.below hP hda.1)
    have hso := Dsk.set_ok HD0.out ((m : Int) + 1) ⟨ti.k, ti.n ++ b⟩ (by show ti.k.size ≤ _; omega) (by show (ti.n ++ b).size ≤ _; rw [ByteArray.size_append]; omega)
    rw [HFR.out] at ct hso
    have HDA := Lib.hid hda; have HSO := Lib.hid hso; have BT := Lib.hid (Blk.new wf #[.string ti.k, .string (ti.n ++ b)] 104)
    clear lt0 lt1 b0 b1 b2 b3 b4 b5 b6 b7 q0 q1 q2 q3 q4 q5 q6 q7 k0 k1 k2 k3 k4 k5 k6 k7 r0 r1 r2 r3 r4 r5 r6 r7
    clear z0 z1 hda hso
    refine ct.mono ?_
    rintro e wt ⟨dv, rfl, ⟨at1, ct1, aLt, cLt, rfl, hTt, hLt, hzt⟩, hbt⟩
    clear ct
    have hdt := HDA.out.on hbt
    have btt := BT.out.onto hbt
    obtain ⟨⟨lt0, lt1⟩, ⟨b0, b1, b2, b3, b4, b5, b6, b7, q0, q1, q2, q3, q4, q5, q6, q7⟩, ⟨k0, k1, k2, k3, k4, k5, k6, k7, r0, r1, r2, r3, r4, r5, r6, r7⟩⟩ := hdt.facts
    have HDT := Lib.hid hdt; have BTT := Lib.hid btt; have TT := Lib.hid hTt; have LT := Lib.hid hLt
    have SZT := Lib.hid hbt.size
    clear hdt btt hTt hLt hbt HDA BT
    go_wp2_with fail
    clear lt0 lt1 b0 b1 b2 b3 b4 b5 b6 b7 q0 q1 q2 q3 q4 q5 q6 q7 k0 k1 k2 k3 k4 k5 k6 k7 r0 r1 r2 r3 r4 r5 r6 r7
    have hdu := HDT.out.on ((Below.refl _ _).alloc (Nat.le_refl _) (.cells (dskC D1.sec at1 D1.tp.length ct1 aLt D1.L.length cLt D1.fu D1.calls) 34))
    have btu := BTT.out.alloc (.cells (dskC D1.sec at1 D1.tp.length ct1 aLt D1.L.length cLt D1.fu D1.calls) 34)
    have hgr := grow_lt (n1 := (wf.alloc (.cells #[.string ti.k, .string (ti.n ++ b)] 104)).heap.size) hP HDT.out.1.size
    have hba := (Below.refl wt.heap.size wt).alloc (Nat.le_refl _) (.cells (dskC D1.sec at1 D1.tp.length ct1 aLt D1.L.length cLt D1.fu D1.calls) 34)
    have cf := rdfree_any HSO.out (by omega) at1 ct1 aLt cLt _ (wt.alloc (.cells (dskC D1.sec at1 D1.tp.length ct1 aLt D1.L.length cLt D1.fu D1.calls) 34)) (fun b hb => Nat.lt_of_lt_of_le (hgr b hb) hba.size) (TT.out.below hgr hba) (LT.out.below hgr hba)
    have HDU := Lib.hid hdu; have BTU := Lib.hid btu
    clear hdu btu hgr hba
    refine cf.mono ?_
    rintro e wc ⟨rfl, hbc⟩
    clear cf
    have hdc := HDU.out.on hbc
    have btc := BTU.out.onto hbc
    obtain ⟨⟨lt0, lt1⟩, ⟨b0, b1, b2, b3, b4, b5, b6, b7, q0, q1, q2, q3, q4, q5, q6, q7⟩, ⟨k0, k1, k2, k3, k4, k5, k6, k7, r0, r1, r2, r3, r4, r5, r6, r7⟩⟩ := hdc.facts
    have hlc : w.heap.size < wf.heap.size ∧ w.heap.size + 1 < wf.heap.size := HDF.out.lt
    have HDC := Lib.hid hdc; have BTC := Lib.hid btc
    clear hdc btc hbc HDU BTU HDT BTT TT LT SZT
    go_wp2
    refine bodyPost_ret (v := .tuple #[dskV sec (some ad) tp.length c aL LL.length cL ⟨p, s0, d0, false⟩ calls, .int .i64 12]) (by simp [results, Tryz.results115, go_sem, k0, k1, k2, k3, k4, k5, k6, k7]) rfl ?_
    refine retDE_end (n1 := w.heap.size + 2) (D := ⟨sec, tp, LL, ⟨p, s0, d0, false⟩, calls⟩) hP HDC.out.1 ?_ (Nat.le_refl _) ((T.out.below hP HDC.out.1).more fun b hb => .inl hb) ((L.out.below hP HDC.out.1).more fun b hb => .inl hb) hz rfl rfl
    iterate 8 refine Apart.setCell ?_ (.inl (by simp)) _
    exact .refl _ _
  rw [if_neg hfr]
  have hfr2 : 0 ≤ D1.free := by omega
  clear hfr
  by_cases hv : v = 0
  · subst hv
    rw [then_ok]
    go_enter Tryz.func115, Tryz.ntmps115
    go_wp2_with fail
    refine (CI.out _ HW.out.1).mono ?_
    rintro e wf ⟨rfl, hbf⟩
    have hdf := HW.out.on hbf
    obtain ⟨⟨lt0, lt1⟩, ⟨b0, b1, b2, b3, b4, b5, b6, b7, q0, q1, q2, q3, q4, q5, q6, q7⟩, ⟨k0, k1, k2, k3, k4, k5, k6, k7, r0, r1, r2, r3, r4, r5, r6, r7⟩⟩ := hdf.facts
    have HDF := Lib.hid hdf
    clear hdf hbf
    obtain ⟨ad, m, rfl, rfl, hm, hadb, z0, z1⟩ := (T.out.below hP HDF.out.1).get i i1 i2
    rw [← HTD.out] at z0 z1
    have d0' : (0 : Int) ≤ (m : Int) := by omega
    have d1' : (m : Int) < (tp.length : Int) := by omega
    have y1 : IntKind.i64.wrap (m : Int) = (m : Int) := IntWalk.i64_in _ (by omega)
    go_wp2_with fail
    have hda := HDF.out.on ((Below.refl _ _).alloc (Nat.le_refl _) (.cells #[.string ti.k, .string (ti.n ++ b)] 104))
    have ct := rdtape_any HD0.out (by omega) (some ad) c aL cL ((m : Int) + 1) i1 i2 ⟨ti.k, ti.n ++ b⟩ P (wf.alloc (.cells #[.string ti.k, .string (ti.n ++ b)] 104)) (fun b hb => Nat.lt_of_lt_of_le (hP b hb) hda.1.size) (T.out.below hP hda.1) (L.out.below hP hda.1)
    have hso := Dsk.set_ok HD0.out ((m : Int) + 1) ⟨ti.k, ti.n ++ b⟩ (by show ti.k.size ≤ _; omega) (by show (ti.n ++ b).size ≤ _; rw [ByteArray.size_append]; omega)
    rw [HFR.out] at ct hso
    have HDA := Lib.hid hda; have HSO := Lib.hid hso; have BT := Lib.hid (Blk.new wf #[.string ti.k, .string (ti.n ++ b)] 104)
    clear lt0 lt1 b0 b1 b2 b3 b4 b5 b6 b7 q0 q1 q2 q3 q4 q5 q6 q7 k0 k1 k2 k3 k4 k5 k6 k7 r0 r1 r2 r3 r4 r5 r6 r7
    clear z0 z1 hda hso
    refine ct.mono ?_
    rintro e wt ⟨dv, rfl, ⟨at1, ct1, aLt, cLt, rfl, hTt, hLt, hzt⟩, hbt⟩
    clear ct
    have hdt := HDA.out.on hbt
    have btt := BT.out.onto hbt
    obtain ⟨⟨lt0, lt1⟩, ⟨b0, b1, b2, b3, b4, b5, b6, b7, q0, q1, q2, q3, q4, q5, q6, q7⟩, ⟨k0, k1, k2, k3, k4, k5, k6, k7, r0, r1, r2, r3, r4, r5, r6, r7⟩⟩ := hdt.facts
    have HDT := Lib.hid hdt; have BTT := Lib.hid btt; have TT := Lib.hid hTt; have LT := Lib.hid hLt
    have SZT := Lib.hid hbt.size
    clear hdt btt hTt hLt hbt HDA BT
    go_wp2_with fail
    clear lt0 lt1 b0 b1 b2 b3 b4 b5 b6 b7 q0 q1 q2 q3 q4 q5 q6 q7 k0 k1 k2 k3 k4 k5 k6 k7 r0 r1 r2 r3 r4 r5 r6 r7
    have hdu := HDT.out.on ((Below.refl _ _).alloc (Nat.le_refl _) (.cells (dskC D1.sec at1 D1.tp.length ct1 aLt D1.L.length cLt D1.fu D1.calls) 34))
    have btu := BTT.out.alloc (.cells (dskC D1.sec at1 D1.tp.length ct1 aLt D1.L.length cLt D1.fu D1.calls) 34)
    have hgr := grow_lt (n1 := (wf.alloc (.cells #[.string ti.k, .string (ti.n ++ b)] 104)).heap.size) hP HDT.out.1.size
    have hba := (Below.refl wt.heap.size wt).alloc (Nat.le_refl _) (.cells (dskC D1.sec at1 D1.tp.length ct1 aLt D1.L.length cLt D1.fu D1.calls) 34)
    have cf := rdfree_any HSO.out (by omega) at1 ct1 aLt cLt _ (wt.alloc (.cells (dskC D1.sec at1 D1.tp.length ct1 aLt D1.L.length cLt D1.fu D1.calls) 34)) (fun b hb => Nat.lt_of_lt_of_le (hgr b hb) hba.size) (TT.out.below hgr hba) (LT.out.below hgr hba)
    have HDU := Lib.hid hdu; have BTU := Lib.hid btu
    clear hdu btu hgr hba
    refine cf.mono ?_
    rintro e wc ⟨rfl, hbc⟩
    clear cf
    have hdc := HDU.out.on hbc
    have btc := BTU.out.onto hbc
    obtain ⟨⟨lt0, lt1⟩, ⟨b0, b1, b2, b3, b4, b5, b6, b7, q0, q1, q2, q3, q4, q5, q6, q7⟩, ⟨k0, k1, k2, k3, k4, k5, k6, k7, r0, r1, r2, r3, r4, r5, r6, r7⟩⟩ := hdc.facts
    have hlc : w.heap.size < wf.heap.size ∧ w.heap.size + 1 < wf.heap.size := HDF.out.lt
    have HDC := Lib.hid hdc; have BTC := Lib.hid btc
    clear hdc btc hbc HDU BTU HDT BTT TT LT SZT
    go_wp2_with fail
    refine (CA.out _ HDC.out.1).mono ?_
    rintro e w1 ⟨a1, c1, aL1, cL1, rfl, hT1, hL1, hz1, hb1⟩
    have hd1 := HDC.out.on hb1
    clear lt0 lt1 b0 b1 b2 b3 b4 b5 b6 b7 q0 q1 q2 q3 q4 q5 q6 q7 k0 k1 k2 k3 k4 k5 k6 k7 r0 r1 r2 r3 r4 r5 r6 r7
    obtain ⟨⟨lt0, lt1⟩, ⟨b0, b1, b2, b3, b4, b5, b6, b7, q0, q1, q2, q3, q4, q5, q6, q7⟩, ⟨k0, k1, k2, k3, k4, k5, k6, k7, r0, r1, r2, r3, r4, r5, r6, r7⟩⟩ := hd1.facts
    have HD1 := Lib.hid hd1
    have T1 := Lib.hid (hT1.more (grow_low HDC.out.lt.2)); have L1 := Lib.hid (hL1.more (grow_low HDC.out.lt.2))
    have HB1 := Lib.hid hb1
    clear hd1 hT1 hL1 hb1
    have hbt := BTC.out.onto HB1.out
    have u0 := hbt.cell 0 _ rfl
    have u1 := hbt.cell 1 _ rfl
    have n0 : w.heap.size ≠ wf.heap.size := Nat.ne_of_lt hlc.1
    have n1 : w.heap.size + 1 ≠ wf.heap.size := Nat.ne_of_lt hlc.2
    clear hbt
    obtain ⟨ad1, rfl⟩ : ∃ ad1, a1 = some ad1 := by obtain ⟨x, _, h, _⟩ := T1.out.get _ i1 i2; exact ⟨x, h⟩
    have hk1 := keep2 hP HD1.out.1.size (put8_apart [w.heap.size, w.heap.size + 1] w1 w.heap.size (by simp) sec (some ad1) tp.length c1 aL1 LL.length cL1 F (calls + 1)) (Nat.le_refl _)
    go_wp2_with fail
    clear lt0 lt1 b0 b1 b2 b3 b4 b5 b6 b7 q0 q1 q2 q3 q4 q5 q6 q7 k0 k1 k2 k3 k4 k5 k6 k7 r0 r1 r2 r3 r4 r5 r6 r7
    have hp1 : ∀ b, Grow P (w.heap.size + 2) w1.heap.size b → b < (put8 w1 w.heap.size sec (some ad1) tp.length c1 aL1 LL.length cL1 F (calls + 1)).heap.size := fun b hb => by simpa using grow_lt hP HD1.out.1.size b hb
    have ct := rdtape_any HOK.out (by omega) (some ad1) c1 aL1 cL1 ((m : Int) + 1) i1 i2 ⟨ti.k, ti.n ++ b⟩ _ (put8 w1 w.heap.size sec (some ad1) tp.length c1 aL1 LL.length cL1 F (calls + 1)) hp1 (T1.out.keep hk1) (L1.out.keep hk1)
    obtain ⟨D2, hD2⟩ : ∃ D2, Dsk.set ⟨sec, tp, LL, F, calls + 1⟩ ((m : Int) + 1) ⟨ti.k, ti.n ++ b⟩ = D2 := ⟨_, rfl⟩
    rw [hD2] at ct
    have HDE := Lib.hid hD2
    refine ct.mono ?_
    rintro e w2 ⟨dv, rfl, ⟨a2, c2, aL2, cL2, rfl, hT2, hL2, hz2⟩, hb2⟩
    have hd2 := (HD1.out.put sec (some ad1) tp.length c1 aL1 LL.length cL1 F (calls + 1)).on hb2
    have hs2 := HD1.out.lt.2
    obtain ⟨⟨lt0, lt1⟩, ⟨b0, b1, b2, b3, b4, b5, b6, b7, q0, q1, q2, q3, q4, q5, q6, q7⟩, ⟨k0, k1, k2, k3, k4, k5, k6, k7, r0, r1, r2, r3, r4, r5, r6, r7⟩⟩ := hd2.facts
    have ht2 := hT2.more (B' := Grow P (w.heap.size + 2) w2.heap.size) (fun b hb => grow_grow hs2 (by have := hb2.size; simpa using this) b (by simpa using hb))
    have hl2 := hL2.more (B' := Grow P (w.heap.size + 2) w2.heap.size) (fun b hb => grow_grow hs2 (by have := hb2.size; simpa using this) b (by simpa using hb))
    have HD2 := Lib.hid hd2; have T2 := Lib.hid ht2; have L2 := Lib.hid hl2
    clear hd2 ht2 hl2 hL2 hT2 hb2 hp1 hk1 hD2 ct u0 u1 n0 n1
    go_wp2
    refine bodyPost_ret (v := .tuple #[dskV D2.sec a2 D2.tp.length c2 aL2 D2.L.length cL2 D2.fu D2.calls, .int .i64 0]) (by simp [results, Tryz.results115, go_sem, k0, k1, k2, k3, k4, k5, k6, k7]) rfl ?_
    rw [HDE.out]
    refine retDE_end (n1 := w.heap.size + 2) (D := D2) hP HD2.out.1 ?_ (Nat.le_refl _) T2.out L2.out hz2 rfl rfl
    iterate 8 refine Apart.setCell ?_ (.inl (by simp)) _
    exact .refl _ _
  · rw [then_no _ _ _ hv]
    have t1 : (v == 0) = false := beq_eq_false_iff_ne.2 hv
    go_enter Tryz.func115, Tryz.ntmps115
    go_wp2_with fail
    refine (CI.out _ HW.out.1).mono ?_
    rintro e wf ⟨rfl, hbf⟩
    have hdf := HW.out.on hbf
    obtain ⟨⟨lt0, lt1⟩, ⟨b0, b1, b2, b3, b4, b5, b6, b7, q0, q1, q2, q3, q4, q5, q6, q7⟩, ⟨k0, k1, k2, k3, k4, k5, k6, k7, r0, r1, r2, r3, r4, r5, r6, r7⟩⟩ := hdf.facts
    have HDF := Lib.hid hdf
    clear hdf hbf
    obtain ⟨ad, m, rfl, rfl, hm, hadb, z0, z1⟩ := (T.out.below hP HDF.out.1).get i i1 i2
    rw [← HTD.out] at z0 z1
    have d0' : (0 : Int) ≤ (m : Int) := by omega
    have d1' : (m : Int) < (tp.length : Int) := by omega
    have y1 : IntKind.i64.wrap (m : Int) = (m : Int) := IntWalk.i64_in _ (by omega)
    go_wp2_with fail
    have hda := HDF.out.on ((Below.refl _ _).alloc (Nat.le_refl _) (.cells #[.string ti.k, .string (ti.n ++ b)] 104))
    have ct := rdtape_any HD0.out (by omega) (some ad) c aL cL ((m : Int) + 1) i1 i2 ⟨ti.k, ti.n ++ b⟩ P (wf.alloc (.cells #[.string ti.k, .string (ti.n ++ b)] 104)) (fun b hb => Nat.lt_of_lt_of_le (hP b hb) hda.1.size) (T.out.below hP hda.1) (L.out.below hP hda.1)
    have hso := Dsk.set_ok HD0.out ((m : Int) + 1) ⟨ti.k, ti.n ++ b⟩ (by show ti.k.size ≤ _; omega) (by show (ti.n ++ b).size ≤ _; rw [ByteArray.size_append]; omega)
    rw [HFR.out] at ct hso
    have HDA := Lib.hid hda; have HSO := Lib.hid hso; have BT := Lib.hid (Blk.new wf #[.string ti.k, .string (ti.n ++ b)] 104)
    clear lt0 lt1 b0 b1 b2 b3 b4 b5 b6 b7 q0 q1 q2 q3 q4 q5 q6 q7 k0 k1 k2 k3 k4 k5 k6 k7 r0 r1 r2 r3 r4 r5 r6 r7
    clear z0 z1 hda hso
    refine ct.mono ?_
    rintro e wt ⟨dv, rfl, ⟨at1, ct1, aLt, cLt, rfl, hTt, hLt, hzt⟩, hbt⟩
    clear ct
    have hdt := HDA.out.on hbt
    have btt := BT.out.onto hbt
    obtain ⟨⟨lt0, lt1⟩, ⟨b0, b1, b2, b3, b4, b5, b6, b7, q0, q1, q2, q3, q4, q5, q6, q7⟩, ⟨k0, k1, k2, k3, k4, k5, k6, k7, r0, r1, r2, r3, r4, r5, r6, r7⟩⟩ := hdt.facts
    have HDT := Lib.hid hdt; have BTT := Lib.hid btt; have TT := Lib.hid hTt; have LT := Lib.hid hLt
    have SZT := Lib.hid hbt.size
    clear hdt btt hTt hLt hbt HDA BT
    go_wp2_with fail
    clear lt0 lt1 b0 b1 b2 b3 b4 b5 b6 b7 q0 q1 q2 q3 q4 q5 q6 q7 k0 k1 k2 k3 k4 k5 k6 k7 r0 r1 r2 r3 r4 r5 r6 r7
    have hdu := HDT.out.on ((Below.refl _ _).alloc (Nat.le_refl _) (.cells (dskC D1.sec at1 D1.tp.length ct1 aLt D1.L.length cLt D1.fu D1.calls) 34))
    have btu := BTT.out.alloc (.cells (dskC D1.sec at1 D1.tp.length ct1 aLt D1.L.length cLt D1.fu D1.calls) 34)
    have hgr := grow_lt (n1 := (wf.alloc (.cells #[.string ti.k, .string (ti.n ++ b)] 104)).heap.size) hP HDT.out.1.size
    have hba := (Below.refl wt.heap.size wt).alloc (Nat.le_refl _) (.cells (dskC D1.sec at1 D1.tp.length ct1 aLt D1.L.length cLt D1.fu D1.calls) 34)
    have cf := rdfree_any HSO.out (by omega) at1 ct1 aLt cLt _ (wt.alloc (.cells (dskC D1.sec at1 D1.tp.length ct1 aLt D1.L.length cLt D1.fu D1.calls) 34)) (fun b hb => Nat.lt_of_lt_of_le (hgr b hb) hba.size) (TT.out.below hgr hba) (LT.out.below hgr hba)
    have HDU := Lib.hid hdu; have BTU := Lib.hid btu
    clear hdu btu hgr hba
    refine cf.mono ?_
    rintro e wc ⟨rfl, hbc⟩
    clear cf
    have hdc := HDU.out.on hbc
    have btc := BTU.out.onto hbc
    obtain ⟨⟨lt0, lt1⟩, ⟨b0, b1, b2, b3, b4, b5, b6, b7, q0, q1, q2, q3, q4, q5, q6, q7⟩, ⟨k0, k1, k2, k3, k4, k5, k6, k7, r0, r1, r2, r3, r4, r5, r6, r7⟩⟩ := hdc.facts
    have hlc : w.heap.size < wf.heap.size ∧ w.heap.size + 1 < wf.heap.size := HDF.out.lt
    have HDC := Lib.hid hdc; have BTC := Lib.hid btc
    clear hdc btc hbc HDU BTU HDT BTT TT LT SZT
    go_wp2_with fail
    refine (CA.out _ HDC.out.1).mono ?_
    rintro e w1 ⟨a1, c1, aL1, cL1, rfl, hT1, hL1, hz1, hb1⟩
    have hd1 := HDC.out.on hb1
    clear lt0 lt1 b0 b1 b2 b3 b4 b5 b6 b7 q0 q1 q2 q3 q4 q5 q6 q7 k0 k1 k2 k3 k4 k5 k6 k7 r0 r1 r2 r3 r4 r5 r6 r7
    obtain ⟨⟨lt0, lt1⟩, ⟨b0, b1, b2, b3, b4, b5, b6, b7, q0, q1, q2, q3, q4, q5, q6, q7⟩, ⟨k0, k1, k2, k3, k4, k5, k6, k7, r0, r1, r2, r3, r4, r5, r6, r7⟩⟩ := hd1.facts
    have HD1 := Lib.hid hd1
    have T1 := Lib.hid (hT1.more (grow_low HDC.out.lt.2)); have L1 := Lib.hid (hL1.more (grow_low HDC.out.lt.2))
    have HB1 := Lib.hid hb1
    clear hd1 hT1 hL1 hb1
    go_wp2
    refine bodyPost_ret (v := .tuple #[dskV sec a1 tp.length c1 aL1 LL.length cL1 F (calls + 1), .int .i64 v]) (by simp [results, Tryz.results115, go_sem, k0, k1, k2, k3, k4, k5, k6, k7]) rfl ?_
    refine retDE_end (D := ⟨sec, tp, LL, F, calls + 1⟩) hP HD1.out.1 ?_ (Nat.le_refl _) T1.out L1.out hz1 rfl rfl
    iterate 16 refine Apart.setCell ?_ (.inl (by simp)) _
    exact .refl _ _
end Go.Proofs.YtfgecjlccngddaaGreat
namespace Go.Proofs.YtfgecjlccngddaaGreat
set_option linter.unusedSimpArgs false
set_option linter.unusedVariables false
open Go.RowKit
set_option linter.unusedVariables false

theorem Dk.set1 {w w' : World} {x0 x1 x2 x3 x4 x5 x6 x7 : Value} (h : Dk w #[x0, x1, x2, x3, x4, x5, x6, x7] w') (u : Value) : Dk w #[x0, u, x2, x3, x4, x5, x6, x7] (w'.setCell ⟨w.heap.size, 1, none⟩ u) :=
  ⟨h.1.setCell (by simp) _, h.2.1.set 1 u, h.2.2.other _ (by simp) _⟩
theorem tps_none {w : World} {B : Nat → Prop} {l : List Tp} (h : Tps w B none l) : l = [] := by
  cases l with
  | nil => rfl
  | cons x r => obtain ⟨ad, e, _⟩ := h 0 (by simp); cases e
theorem ids_64 {M : Nat} {D : Dsk} (hD : D.ok M) (hM : M ≤ 199) (aL : Option Addr) (cL : Nat) (P : Nat → Prop) (w : World) (hP : ∀ b, P b → b < w.heap.size) (hL : LLs w P aL D.L) (W : World) (h : Below w.heap.size w W) :
    Calls Tryz.prog 111 #[fdV aL D.L.length cL] W (RetInts W (idsK D.L)) :=
  rids9_any aL D.L cL P W (fun b hb => Nat.lt_of_lt_of_le (hP b hb) h.size) (hL.below hP h) (by have := hD.2.2.1.2.1; omega) (fun l hl => by have := hD.2.2.1.2.2 l hl; omega)

theorem Dk.below3 {w w' w3 : World} {C : Array Value} {B : Nat} (h : Dk w C w') (hb : Below B w' w3) (hB : w.heap.size + 1 < B := by first | assumption | omega) : Dk w C w3 :=
  ⟨h.1.trans (hb.mono (by omega)), h.2.1.below hb (by omega), h.2.2.below hb hB⟩
theorem own_new {w : World} {base : Nat} {t : TypeId} {v : Value} {l : List Tp} (h : w.ownsRow base t 2 v (l.length + 1) (Tp.flat l ++ [.string ⟨#[]⟩, .string ⟨#[]⟩])) :
    ∃ a c, v = .slice a (l.length + 1) c ∧ Tps w (fun b => base ≤ b ∧ b < w.heap.size) a (l ++ [Tp.none]) := by
  have e1 : (l ++ [Tp.none]).length = l.length + 1 := by simp
  have e2 : Tp.flat (l ++ [Tp.none]) = Tp.flat l ++ [.string ⟨#[]⟩, .string ⟨#[]⟩] := by rw [Tp.flat_app]; rfl
  have := own_tps (l := l ++ [Tp.none]) (v := v) (w := w) (base := base) (t := t) (by rw [e1, e2]; exact h)
  rw [e1] at this
  exact this
theorem rows_at {W : World} {B : Nat → Prop} {ad : Addr} {l : List Tp} (h : Tps W B (some ad) l) (hB : ∀ b, B b → b < W.heap.size) (o : Obj) : ∀ j u, (Tp.flat l)[j]? = some u → (W.alloc o).cell? (ad.add j) = some u := by
  intro j u hj
  have hj2 : j < l.length * 2 := by rw [← Tp.flat_len]; exact (List.getElem?_eq_some_iff.1 hj).1
  obtain ⟨x, hx, hb, _⟩ := h 0 (by omega)
  obtain rfl : ad = x := by simpa using hx
  rw [((Below.refl W.heap.size W).alloc (Nat.le_refl _) o).cell (by rw [add_block]; exact hB _ hb)]
  exact tps_flat h j u hj
theorem put8_size (w : World) (b : Nat) (sec : Int) (a : Option Addr) (n c : Nat) (aL : Option Addr) (nL cL : Nat) (f : Fus) (calls : Int) : (put8 w b sec a n c aL nL cL f calls).heap.size = w.heap.size := by simp
theorem av_none {w : World} {B : Nat → Prop} {l : List Tp} {x : Tp} {c : Nat} (h : Tps w B none (l ++ [x])) : c = 0 := by
  have := tps_none h
  simp at this

set_option maxRecDepth 100000 in
set_option maxHeartbeats 1600000 in
theorem rdcreate_any {M : Nat} {D : Dsk} (hD : D.ok M) (hM : M ≤ 199) (a : Option Addr) (c : Nat) (aL : Option Addr) (cL : Nat) (s : ByteArray) (hs : s.size ≤ maxLen) (P : Nat → Prop) (w : World) (hP : ∀ b, P b → b < w.heap.size) (hT : Tps w P a D.tp) (hL : LLs w P aL D.L) (hz : a = none → c = 0) :
    Calls Tryz.prog 114 #[dskV D.sec a D.tp.length c aL D.L.length cL D.fu D.calls, .string s] w (RetDE w P (D.create s)) := by
  by_cases ho : D.fu.off = true
  · have e : D.create s = (D, 14) := by unfold Dsk.create; rw [if_pos ho]
    rw [e]
    clear e
    obtain ⟨sec, tp, LL, ⟨p, s0, d0, off⟩, calls⟩ := D
    obtain rfl : off = true := ho
    go_enter Tryz.func114, Tryz.ntmps114
    go_wp2
    refine bodyPost_ret (v := .tuple #[dskV sec a tp.length c aL LL.length cL ⟨p, s0, d0, true⟩ calls, .int .i64 14]) (by simp [results, Tryz.results114, go_sem]) rfl ?_
    exact retDE_mk (D := ⟨sec, tp, LL, ⟨p, s0, d0, true⟩, calls⟩) hP hT hL rfl rfl hz (by exact ((Below.refl _ _).alloc (Nat.le_refl _) _).alloc (by simp) _)
  have ho : D.fu.off = false := by simpa using ho
  have ci := fun (W : World) (h : Below w.heap.size w W) => rdfind_any hD (by omega) a D.tp.length c aL cL s P W (fun b hb => Nat.lt_of_lt_of_le (hP b hb) h.size) (hL.below hP h)
  have hid := D.id_is hD s
  obtain ⟨i, hi⟩ : ∃ i, D.id s = i := ⟨_, rfl⟩
  rw [hi] at ci hid
  have cm := rmay_any s hs
  obtain ⟨m, hm⟩ : ∃ m, mayB s.data.toList = m := ⟨_, rfl⟩
  rw [hm] at cm
  have cj := ids_64 hD hM aL cL P w hP hL
  have hlen := D.ids_len hD
  have hmul : (M + 1) * M ≤ 200 * 199 := Nat.mul_le_mul (by omega) hM
  have e : D.create s = if m = false then (D, 7) else if 0 < i then (D, 17) else if 64 ≤ (idsK D.L).length then (D, 9) else Dsk.then (D.ask false) fun E => { E with tp := E.tp ++ [Tp.none], L := putF E.L s (E.tp.length + 1 : Nat) } := by unfold Dsk.create; rw [if_neg (by rw [ho]; simp), hi, hm]
  obtain ⟨⟨F, v⟩, hF⟩ : ∃ r, D.fu.call false = r := ⟨_, rfl⟩
  have ca := rdask_f hD (by omega) a c aL cL false P w hP hT hL hz F v hF
  rw [e, ask_eq hF]
  have hnT : D.tp.length ≤ 200 := Nat.le_trans hD.2.1 (Nat.le_succ_of_le hM)
  have hLL := hD.2.2.1
  have hw := Dk.start w (dskC D.sec a D.tp.length c aL D.L.length cL D.fu D.calls)
  have T := Lib.hid hT; have L := Lib.hid hL
  obtain ⟨sec, tp, LL, ⟨p, s0, d0, off⟩, calls⟩ := D
  obtain rfl : off = false := ho
  simp only at ca hLL hw ci cj hid hnT hlen
  have CA := Lib.hid ca; have HW := Lib.hid hw; have HLL := Lib.hid hLL
  obtain ⟨ids, hids⟩ : ∃ x, idsK LL = x := ⟨_, rfl⟩
  simp only [hids] at cj hlen ⊢
  have CI := Lib.hid ci; have CM := Lib.hid cm; have CJ := Lib.hid cj
  clear e ca hLL hw hF hD hT hL ci hi cm hm cj hids
  cases m with
  | false =>
    rw [if_pos rfl]
    go_enter Tryz.func114, Tryz.ntmps114
    go_wp2_with fail
    refine (CM.out _).mono ?_
    rintro e w' ⟨rfl, rfl⟩
    go_wp2
    refine bodyPost_ret (v := .tuple #[dskV sec a tp.length c aL LL.length cL ⟨p, s0, d0, false⟩ calls, .int .i64 7]) (by simp [results, Tryz.results114, go_sem]) rfl ?_
    exact retDE_mk (D := ⟨sec, tp, LL, ⟨p, s0, d0, false⟩, calls⟩) hP T.out L.out rfl rfl hz (by exact ((Below.refl _ _).alloc (Nat.le_refl _) _).alloc (by simp) _)
  | true =>
  rw [if_neg (by simp)]
  by_cases hi1 : 0 < i
  · rw [if_pos hi1]
    go_enter Tryz.func114, Tryz.ntmps114
    go_wp2_with fail
    refine (CM.out _).mono ?_
    rintro e w' ⟨rfl, rfl⟩
    go_wp2_with fail
    refine (CI.out _ HW.out.1).mono ?_
    rintro e wf ⟨rfl, hbf⟩
    have hdf := HW.out.on hbf
    obtain ⟨⟨lt0, lt1⟩, ⟨b0, b1, b2, b3, b4, b5, b6, b7, q0, q1, q2, q3, q4, q5, q6, q7⟩, ⟨k0, k1, k2, k3, k4, k5, k6, k7, r0, r1, r2, r3, r4, r5, r6, r7⟩⟩ := hdf.facts
    have HDF := Lib.hid hdf
    clear hdf hbf
    go_wp2
    refine bodyPost_ret (v := .tuple #[dskV sec a tp.length c aL LL.length cL ⟨p, s0, d0, false⟩ calls, .int .i64 17]) (by simp [results, Tryz.results114, go_sem, k0, k1, k2, k3, k4, k5, k6, k7]) rfl ?_
    refine retDE_end (n1 := w.heap.size + 2) (D := ⟨sec, tp, LL, ⟨p, s0, d0, false⟩, calls⟩) hP HDF.out.1 ?_ (Nat.le_refl _) ((T.out.below hP HDF.out.1).more fun b hb => .inl hb) ((L.out.below hP HDF.out.1).more fun b hb => .inl hb) hz rfl rfl
    iterate 8 refine Apart.setCell ?_ (.inl (by simp)) _
    exact .refl _ _
  rw [if_neg hi1]
  have hi2 : i ≤ 0 := by omega
  clear hi1
  by_cases h64 : 64 ≤ ids.length
  · rw [if_pos h64]
    go_enter Tryz.func114, Tryz.ntmps114
    go_wp2_with fail
    refine (CM.out _).mono ?_
    rintro e w' ⟨rfl, rfl⟩
    go_wp2_with fail
    refine (CI.out _ HW.out.1).mono ?_
    rintro e wf ⟨rfl, hbf⟩
    have hdf := HW.out.on hbf
    obtain ⟨⟨lt0, lt1⟩, ⟨b0, b1, b2, b3, b4, b5, b6, b7, q0, q1, q2, q3, q4, q5, q6, q7⟩, ⟨k0, k1, k2, k3, k4, k5, k6, k7, r0, r1, r2, r3, r4, r5, r6, r7⟩⟩ := hdf.facts
    have HDF := Lib.hid hdf
    clear hdf hbf
    go_wp2_with fail
    refine (CJ.out _ HDF.out.1).mono ?_
    rintro e wj ⟨ai, ci, rfl, _, hbj⟩
    have hdj := HDF.out.on hbj
    clear lt0 lt1 b0 b1 b2 b3 b4 b5 b6 b7 q0 q1 q2 q3 q4 q5 q6 q7 k0 k1 k2 k3 k4 k5 k6 k7 r0 r1 r2 r3 r4 r5 r6 r7
    obtain ⟨⟨lt0, lt1⟩, ⟨b0, b1, b2, b3, b4, b5, b6, b7, q0, q1, q2, q3, q4, q5, q6, q7⟩, ⟨k0, k1, k2, k3, k4, k5, k6, k7, r0, r1, r2, r3, r4, r5, r6, r7⟩⟩ := hdj.facts
    have HDJ := Lib.hid hdj
    clear hdj hbj
    go_wp2
    refine bodyPost_ret (v := .tuple #[dskV sec a tp.length c aL LL.length cL ⟨p, s0, d0, false⟩ calls, .int .i64 9]) (by simp [results, Tryz.results114, go_sem, k0, k1, k2, k3, k4, k5, k6, k7]) rfl ?_
    refine retDE_end (n1 := w.heap.size + 2) (D := ⟨sec, tp, LL, ⟨p, s0, d0, false⟩, calls⟩) hP HDJ.out.1 ?_ (Nat.le_refl _) ((T.out.below hP HDJ.out.1).more fun b hb => .inl hb) ((L.out.below hP HDJ.out.1).more fun b hb => .inl hb) hz rfl rfl
    iterate 8 refine Apart.setCell ?_ (.inl (by simp)) _
    exact .refl _ _
  rw [if_neg h64]
  have h63 : ids.length ≤ 63 := by omega
  clear h64
  by_cases hv : v = 0
  · subst hv
    rw [then_ok]
    obtain ⟨i0, hi, hy0, hy1, hy2⟩ := info_parts tape_info
    go_enter Tryz.func114, Tryz.ntmps114
    go_wp2_with fail
    refine (CM.out _).mono ?_
    rintro e w' ⟨rfl, rfl⟩
    go_wp2_with fail
    refine (CI.out _ HW.out.1).mono ?_
    rintro e wf ⟨rfl, hbf⟩
    have hdf := HW.out.on hbf
    obtain ⟨⟨lt0, lt1⟩, ⟨b0, b1, b2, b3, b4, b5, b6, b7, q0, q1, q2, q3, q4, q5, q6, q7⟩, ⟨k0, k1, k2, k3, k4, k5, k6, k7, r0, r1, r2, r3, r4, r5, r6, r7⟩⟩ := hdf.facts
    have HDF := Lib.hid hdf
    clear hdf hbf
    go_wp2_with fail
    refine (CJ.out _ HDF.out.1).mono ?_
    rintro e wj ⟨ai, ci, rfl, _, hbj⟩
    have hdj := HDF.out.on hbj
    clear lt0 lt1 b0 b1 b2 b3 b4 b5 b6 b7 q0 q1 q2 q3 q4 q5 q6 q7 k0 k1 k2 k3 k4 k5 k6 k7 r0 r1 r2 r3 r4 r5 r6 r7
    obtain ⟨⟨lt0, lt1⟩, ⟨b0, b1, b2, b3, b4, b5, b6, b7, q0, q1, q2, q3, q4, q5, q6, q7⟩, ⟨k0, k1, k2, k3, k4, k5, k6, k7, r0, r1, r2, r3, r4, r5, r6, r7⟩⟩ := hdj.facts
    have HDJ := Lib.hid hdj
    clear hdj hbj
    go_wp2_with fail
    refine (CA.out _ HDJ.out.1).mono ?_
    rintro e w1 ⟨a1, c1, aL1, cL1, rfl, hT1, hL1, hz1, hb1⟩
    have hd1 := HDJ.out.on hb1
    clear lt0 lt1 b0 b1 b2 b3 b4 b5 b6 b7 q0 q1 q2 q3 q4 q5 q6 q7 k0 k1 k2 k3 k4 k5 k6 k7 r0 r1 r2 r3 r4 r5 r6 r7
    obtain ⟨⟨lt0, lt1⟩, ⟨b0, b1, b2, b3, b4, b5, b6, b7, q0, q1, q2, q3, q4, q5, q6, q7⟩, ⟨k0, k1, k2, k3, k4, k5, k6, k7, r0, r1, r2, r3, r4, r5, r6, r7⟩⟩ := hd1.facts
    have HD1 := Lib.hid hd1
    have T1 := Lib.hid (hT1.more (grow_low HDJ.out.lt.2)); have L1 := Lib.hid (hL1.more (grow_low HDJ.out.lt.2))
    have HB1 := Lib.hid hb1
    clear hd1 hT1 hL1 hb1
    have hk1 := fun ax => keep2 hP HD1.out.1.size (put8_apart [w.heap.size, w.heap.size + 1] w1 w.heap.size (by simp) sec ax tp.length c1 aL1 LL.length cL1 F (calls + 1)) (Nat.le_refl _)
    have HK1 := Lib.hid hk1
    clear hk1
    cases a1 with
    | none =>
      obtain rfl := hz1 rfl
      have htp := tps_none T1.out
      subst htp
      simp only [List.length_nil] at *
      have hsz3 : ((put8 w1 w.heap.size sec none 0 0 aL1 LL.length cL1 F (calls + 1)).alloc (.cells #[] 104)).heap.size = w1.heap.size + 1 := by simp
      have hnwt : ∀ j u, ([.string ⟨#[]⟩, .string ⟨#[]⟩] : List Value)[j]? = some u → (((put8 w1 w.heap.size sec none 0 0 aL1 LL.length cL1 F (calls + 1)).alloc (.cells #[] 104)).alloc (.cells #[.string ⟨#[]⟩, .string ⟨#[]⟩] 104)).cell? ((⟨w1.heap.size + 1, 0, none⟩ : Addr).add j) = some u := by
        rw [← hsz3]
        exact news_tp _ _ _ _
      have NWT := Lib.hid hnwt
      clear hnwt hsz3
      have hlit : ((put8 w1 w.heap.size sec none 0 0 aL1 LL.length cL1 F (calls + 1)).alloc (.cells #[] 104)).ownsRow w1.heap.size 104 2 (.slice (some ⟨w1.heap.size, 0, none⟩) 0 0) 0 [] := by
        have := World.ownsRow_lit (base := w1.heap.size) (e := 104) (size := 2) (put8 w1 w.heap.size sec none 0 0 aL1 LL.length cL1 F (calls + 1)) #[] 0 (by simp) (Nat.zero_le _) rfl
        simpa using this
      have LIT := Lib.hid hlit
      clear hlit
      have tok1 : True := trivial
      go_wp2_with (first
        | (at_builtin; have _t := tok1; refine wpList_append_own_none rfl _ _ 27 rfl w1.heap.size 104 i0 2 Tryz.underlying27 hi _ 0 [] rfl LIT.out rfl ?_; clear tok1)
        | (at_builtin; refine wpList_append_own _ rfl _ _ 27 rfl w1.heap.size 104 i0 _ 2 32 Tryz.underlying27 hi hy0 hy1 hy2 rfl (by decide) _ 0 [] rfl (LIT.out.alloc _) ⟨w1.heap.size + 1, 0, none⟩ 1 1 [.string ⟨#[]⟩, .string ⟨#[]⟩] rfl rfl NWT.out (one_tp _ _) (by unfold maxLen; omega) (by omega) (by simp; omega) ?_; intro v2 w3 ho2 hg2 _; have hb3 : Below w1.heap.size (put8 w1 w.heap.size sec none 0 0 aL1 LL.length cL1 F (calls + 1)) w3 := (((Below.refl _ _).alloc (by simp) _).alloc (by simp) _).grown hg2 (by simp; omega) (own_block LIT.out); obtain ⟨av, cv, ev, ht3⟩ := own_new (l := []) ho2; subst ev; have hd3 := (HD1.out.put sec none 0 0 aL1 LL.length cL1 F (calls + 1)).below3 hb3; obtain ⟨⟨lt0, lt1⟩, ⟨b0, b1, b2, b3, b4, b5, b6, b7, q0, q1, q2, q3, q4, q5, q6, q7⟩, ⟨k0, k1, k2, k3, k4, k5, k6, k7, r0, r1, r2, r3, r4, r5, r6, r7⟩⟩ := hd3.facts; have HD3 := Lib.hid hd3; have HB3 := Lib.hid hb3; have HT3 := Lib.hid ht3; clear ho2 hg2 hb3 hd3 ht3))
      have hsz3 : w.heap.size + 2 ≤ w1.heap.size := HD1.out.lt.2
      have hap := (Apart.refl [w.heap.size, w.heap.size + 1] w3).setCell (p := ⟨w.heap.size, 1, none⟩) (.inl (by simp)) (.slice av 1 cv)
      have hk3 := keep2 hP HD3.out.1.size hap (Nat.le_refl _)
      have hl3 := ((L1.out.keep (HK1.out none)).below (fun b hb => grow_lt hP HD1.out.1.size b hb) HB3.out).more (B' := Grow P (w.heap.size + 2) w3.heap.size) (fun b hb => grow_grow hsz3 (Nat.le_trans (Nat.le_of_eq (put8_size _ _ _ _ _ _ _ _ _ _ _).symm) HB3.out.size) b (.inl hb))
      have ht3 := HT3.out.more (B' := Grow P (w.heap.size + 2) w3.heap.size) (fun b hb => .inr ⟨Nat.le_trans hsz3 hb.1, hb.2⟩)
      have hp3 := fun b hb => Nat.lt_of_lt_of_le (grow_lt (n1 := w.heap.size + 2) hP HD3.out.1.size b hb) hap.size
      have cp := rput9_any aL1 LL cL1 s 1 _ (w3.setCell ⟨w.heap.size, 1, none⟩ (.slice av 1 cv)) hp3 (hl3.keep hk3) HLL.out.1 (by have := HLL.out.2.1; omega) (by have := HLL.out.2.2 _ (nowL_mem HLL.out.1); omega)
      have HT3b := Lib.hid (ht3.keep hk3); have HP3 := Lib.hid hp3
      clear lt0 lt1 b0 b1 b2 b3 b4 b5 b6 b7 q0 q1 q2 q3 q4 q5 q6 q7 k0 k1 k2 k3 k4 k5 k6 k7 r0 r1 r2 r3 r4 r5 r6 r7
      clear hap hk3 hl3 ht3 hp3 hsz3
      refine cp.mono ?_
      rintro e w4 ⟨aL2, cL2, rfl, hL2, hb4⟩
      clear cp
      have hd4 := (HD3.out.set1 (.slice av 1 cv)).on hb4
      have hs4 := HD3.out.lt.2
      obtain ⟨⟨lt0, lt1⟩, ⟨b0, b1, b2, b3, b4, b5, b6, b7, q0, q1, q2, q3, q4, q5, q6, q7⟩, ⟨k0, k1, k2, k3, k4, k5, k6, k7, r0, r1, r2, r3, r4, r5, r6, r7⟩⟩ := hd4.facts
      have ht4 := (HT3b.out.below HP3.out hb4).more (B' := Grow P (w.heap.size + 2) w4.heap.size) (fun b hb => grow_grow hs4 (by have := hb4.size; simpa using this) b (.inl hb))
      have hl4 := hL2.more (B' := Grow P (w.heap.size + 2) w4.heap.size) (fun b hb => grow_grow hs4 (by have := hb4.size; simpa using this) b (by simpa using hb))
      have HD4 := Lib.hid hd4; have T4 := Lib.hid ht4; have L4 := Lib.hid hl4
      clear hd4 ht4 hl4 hL2 hb4
      go_wp2
      refine bodyPost_ret (v := .tuple #[dskV sec av 1 cv aL2 (putF LL s 1).length cL2 F (calls + 1), .int .i64 0]) (by simp [results, Tryz.results114, go_sem, k0, k1, k2, k3, k4, k5, k6, k7]) rfl ?_
      refine retDE_end (n1 := w.heap.size + 2) (D := ⟨sec, [] ++ [Tp.none], putF LL s 1, F, calls + 1⟩) hP HD4.out.1 ?_ (Nat.le_refl _) T4.out L4.out (fun h => by subst h; exact av_none T4.out) (by simp) rfl
      iterate 9 refine Apart.setCell ?_ (.inl (by simp)) _
      exact .refl _ _
    | some ad =>
      have hone := tps_one tp
      have hxn : (Tp.flat tp).length = tp.length * 2 := Tp.flat_len tp
      have hnw2 := rows_at (T1.out.keep (HK1.out (some ad))) (fun b hb => by simpa using grow_lt hP HD1.out.1.size b hb) (.cells #[] 104)
      have NW := Lib.hid hnw2; have ON := Lib.hid hone; have XN := Lib.hid hxn
      clear hone hxn hnw2
      have hlit : ((put8 w1 w.heap.size sec (some ad) tp.length c1 aL1 LL.length cL1 F (calls + 1)).alloc (.cells #[] 104)).ownsRow w1.heap.size 104 2 (.slice (some ⟨w1.heap.size, 0, none⟩) 0 0) 0 [] := by
        have := World.ownsRow_lit (base := w1.heap.size) (e := 104) (size := 2) (put8 w1 w.heap.size sec (some ad) tp.length c1 aL1 LL.length cL1 F (calls + 1)) #[] 0 (by simp) (Nat.zero_le _) rfl
        simpa using this
      have LIT := Lib.hid hlit
      clear hlit
      have tok1 : True := trivial
      go_wp2_with (first
        | (at_builtin; have _t := tok1; refine wpList_append_own _ rfl _ _ 27 rfl w1.heap.size 104 i0 _ 2 32 Tryz.underlying27 hi hy0 hy1 hy2 rfl (by decide) _ 0 [] rfl LIT.out ad tp.length c1 (Tp.flat tp) rfl XN.out NW.out ON.out (by unfold maxLen; omega) (by omega) (by simp) ?_; intro v1 w2 ho1 hg1 _; have hb1 : Below w1.heap.size (put8 w1 w.heap.size sec (some ad) tp.length c1 aL1 LL.length cL1 F (calls + 1)) w2 := ((Below.refl _ _).alloc (by simp) _).grown hg1 (by simp) (own_block LIT.out); rw [Nat.zero_add, List.nil_append] at ho1; have hsz2 : w1.heap.size ≤ w2.heap.size := Nat.le_trans (Nat.le_of_eq (put8_size _ _ _ _ _ _ _ _ _ _ _).symm) hb1.size; have HO1 := Lib.hid ho1; have HB2 := Lib.hid hb1; clear ho1 hg1 hb1 tok1)
        | (at_builtin; refine wpList_append_own _ rfl _ _ 27 rfl w1.heap.size 104 i0 _ 2 32 Tryz.underlying27 hi hy0 hy1 hy2 rfl (by decide) _ tp.length (Tp.flat tp) rfl (HO1.out.alloc _) ⟨w2.heap.size, 0, none⟩ 1 1 [.string ⟨#[]⟩, .string ⟨#[]⟩] rfl rfl (news_tp _ _ _ _) (one_tp _ _) (by unfold maxLen; omega) (by omega) (Nat.le_trans hsz2 (by simp)) ?_; intro v2 w3 ho2 hg2 _; have hb3 : Below w1.heap.size (put8 w1 w.heap.size sec (some ad) tp.length c1 aL1 LL.length cL1 F (calls + 1)) w3 := (HB2.out.alloc hsz2 _).grown hg2 (Nat.le_trans hsz2 (by simp)) (own_block HO1.out); obtain ⟨av, cv, ev, ht3⟩ := own_new (l := tp) ho2; subst ev; have hd3 := (HD1.out.put sec (some ad) tp.length c1 aL1 LL.length cL1 F (calls + 1)).below3 hb3; obtain ⟨⟨lt0, lt1⟩, ⟨b0, b1, b2, b3, b4, b5, b6, b7, q0, q1, q2, q3, q4, q5, q6, q7⟩, ⟨k0, k1, k2, k3, k4, k5, k6, k7, r0, r1, r2, r3, r4, r5, r6, r7⟩⟩ := hd3.facts; have HD3 := Lib.hid hd3; have HB3 := Lib.hid hb3; have HT3 := Lib.hid ht3; clear ho2 hg2 hb3 hd3 ht3))
      have hsz3 : w.heap.size + 2 ≤ w1.heap.size := HD1.out.lt.2
      have hap := (Apart.refl [w.heap.size, w.heap.size + 1] w3).setCell (p := ⟨w.heap.size, 1, none⟩) (.inl (by simp)) (.slice av (tp.length + 1) cv)
      have hk3 := keep2 hP HD3.out.1.size hap (Nat.le_refl _)
      have hl3 := ((L1.out.keep (HK1.out (some ad))).below (fun b hb => grow_lt hP HD1.out.1.size b hb) HB3.out).more (B' := Grow P (w.heap.size + 2) w3.heap.size) (fun b hb => grow_grow hsz3 (Nat.le_trans (Nat.le_of_eq (put8_size _ _ _ _ _ _ _ _ _ _ _).symm) HB3.out.size) b (.inl hb))
      have ht3 := HT3.out.more (B' := Grow P (w.heap.size + 2) w3.heap.size) (fun b hb => .inr ⟨Nat.le_trans hsz3 hb.1, hb.2⟩)
      have hp3 := fun b hb => Nat.lt_of_lt_of_le (grow_lt (n1 := w.heap.size + 2) hP HD3.out.1.size b hb) hap.size
      have cp := rput9_any aL1 LL cL1 s ((tp.length : Int) + 1) _ (w3.setCell ⟨w.heap.size, 1, none⟩ (.slice av (tp.length + 1) cv)) hp3 (hl3.keep hk3) HLL.out.1 (by have := HLL.out.2.1; omega) (by have := HLL.out.2.2 _ (nowL_mem HLL.out.1); omega)
      have HT3b := Lib.hid (ht3.keep hk3); have HP3 := Lib.hid hp3
      clear lt0 lt1 b0 b1 b2 b3 b4 b5 b6 b7 q0 q1 q2 q3 q4 q5 q6 q7 k0 k1 k2 k3 k4 k5 k6 k7 r0 r1 r2 r3 r4 r5 r6 r7
      clear hap hk3 hl3 ht3 hp3 hsz3
      refine cp.mono ?_
      rintro e w4 ⟨aL2, cL2, rfl, hL2, hb4⟩
      clear cp
      have hd4 := (HD3.out.set1 (.slice av (tp.length + 1) cv)).on hb4
      have hs4 := HD3.out.lt.2
      obtain ⟨⟨lt0, lt1⟩, ⟨b0, b1, b2, b3, b4, b5, b6, b7, q0, q1, q2, q3, q4, q5, q6, q7⟩, ⟨k0, k1, k2, k3, k4, k5, k6, k7, r0, r1, r2, r3, r4, r5, r6, r7⟩⟩ := hd4.facts
      have ht4 := (HT3b.out.below HP3.out hb4).more (B' := Grow P (w.heap.size + 2) w4.heap.size) (fun b hb => grow_grow hs4 (by have := hb4.size; simpa using this) b (.inl hb))
      have hl4 := hL2.more (B' := Grow P (w.heap.size + 2) w4.heap.size) (fun b hb => grow_grow hs4 (by have := hb4.size; simpa using this) b (by simpa using hb))
      have HD4 := Lib.hid hd4; have T4 := Lib.hid ht4; have L4 := Lib.hid hl4
      clear hd4 ht4 hl4 hL2 hb4
      go_wp2
      refine bodyPost_ret (v := .tuple #[dskV sec av (tp.length + 1) cv aL2 (putF LL s ((tp.length : Int) + 1)).length cL2 F (calls + 1), .int .i64 0]) (by simp [results, Tryz.results114, go_sem, k0, k1, k2, k3, k4, k5, k6, k7]) rfl ?_
      refine retDE_end (n1 := w.heap.size + 2) (D := ⟨sec, tp ++ [Tp.none], putF LL s ((tp.length : Int) + 1), F, calls + 1⟩) hP HD4.out.1 ?_ (Nat.le_refl _) T4.out L4.out (fun h => by subst h; exact av_none T4.out) (by simp) rfl
      iterate 9 refine Apart.setCell ?_ (.inl (by simp)) _
      exact .refl _ _
  · rw [then_no _ _ _ hv]
    have t1 : (v == 0) = false := beq_eq_false_iff_ne.2 hv
    go_enter Tryz.func114, Tryz.ntmps114
    go_wp2_with fail
    refine (CM.out _).mono ?_
    rintro e w' ⟨rfl, rfl⟩
    go_wp2_with fail
    refine (CI.out _ HW.out.1).mono ?_
    rintro e wf ⟨rfl, hbf⟩
    have hdf := HW.out.on hbf
    obtain ⟨⟨lt0, lt1⟩, ⟨b0, b1, b2, b3, b4, b5, b6, b7, q0, q1, q2, q3, q4, q5, q6, q7⟩, ⟨k0, k1, k2, k3, k4, k5, k6, k7, r0, r1, r2, r3, r4, r5, r6, r7⟩⟩ := hdf.facts
    have HDF := Lib.hid hdf
    clear hdf hbf
    go_wp2_with fail
    refine (CJ.out _ HDF.out.1).mono ?_
    rintro e wj ⟨ai, ci, rfl, _, hbj⟩
    have hdj := HDF.out.on hbj
    clear lt0 lt1 b0 b1 b2 b3 b4 b5 b6 b7 q0 q1 q2 q3 q4 q5 q6 q7 k0 k1 k2 k3 k4 k5 k6 k7 r0 r1 r2 r3 r4 r5 r6 r7
    obtain ⟨⟨lt0, lt1⟩, ⟨b0, b1, b2, b3, b4, b5, b6, b7, q0, q1, q2, q3, q4, q5, q6, q7⟩, ⟨k0, k1, k2, k3, k4, k5, k6, k7, r0, r1, r2, r3, r4, r5, r6, r7⟩⟩ := hdj.facts
    have HDJ := Lib.hid hdj
    clear hdj hbj
    go_wp2_with fail
    refine (CA.out _ HDJ.out.1).mono ?_
    rintro e w1 ⟨a1, c1, aL1, cL1, rfl, hT1, hL1, hz1, hb1⟩
    have hd1 := HDJ.out.on hb1
    clear lt0 lt1 b0 b1 b2 b3 b4 b5 b6 b7 q0 q1 q2 q3 q4 q5 q6 q7 k0 k1 k2 k3 k4 k5 k6 k7 r0 r1 r2 r3 r4 r5 r6 r7
    obtain ⟨⟨lt0, lt1⟩, ⟨b0, b1, b2, b3, b4, b5, b6, b7, q0, q1, q2, q3, q4, q5, q6, q7⟩, ⟨k0, k1, k2, k3, k4, k5, k6, k7, r0, r1, r2, r3, r4, r5, r6, r7⟩⟩ := hd1.facts
    have HD1 := Lib.hid hd1
    have T1 := Lib.hid (hT1.more (grow_low HDJ.out.lt.2)); have L1 := Lib.hid (hL1.more (grow_low HDJ.out.lt.2))
    have HB1 := Lib.hid hb1
    clear hd1 hT1 hL1 hb1
    go_wp2
    refine bodyPost_ret (v := .tuple #[dskV sec a1 tp.length c1 aL1 LL.length cL1 F (calls + 1), .int .i64 v]) (by simp [results, Tryz.results114, go_sem, k0, k1, k2, k3, k4, k5, k6, k7]) rfl ?_
    refine retDE_end (D := ⟨sec, tp, LL, F, calls + 1⟩) hP HD1.out.1 ?_ (Nat.le_refl _) T1.out L1.out hz1 rfl rfl
    iterate 16 refine Apart.setCell ?_ (.inl (by simp)) _
    exact .refl _ _
end Go.Proofs.YtfgecjlccngddaaGreat
namespace Go.Proofs.YtfgecjlccngddaaGreat
set_option linter.unusedSimpArgs false
set_option linter.unusedVariables false
open Go.RowKit
set_option linter.unusedVariables false

def Dsk.make (sec : Int) : Dsk × Int := if sec < 1 ∨ 4096 < sec then (Dsk.zero, 2) else (Dsk.new sec, 0)
theorem Dsk.new_ok (sec : Int) (h1 : 1 ≤ sec) (h2 : sec ≤ 4096) : Dsk.ok 0 (Dsk.new sec) := by
  refine ⟨⟨h1, h2⟩, Nat.le_refl _, ⟨by simp [Dsk.new], by simp [Dsk.new], ?_⟩, ?_, ?_, Fus.new_ok, by simp [Dsk.new]⟩
  · intro l hl; simp [Dsk.new] at hl; subst hl; simp
  · intro t ht; simp [Dsk.new] at ht
  · intro l hl e he; simp [Dsk.new] at hl; subst hl; simp at he
theorem isD_zero (w : World) (P : Nat → Prop) : IsD w P (.agg dskZ) Dsk.zero := ⟨none, 0, none, 0, rfl, fun k hk => absurd hk (by simp [Dsk.zero]), fun k hk => absurd hk (by simp [Dsk.zero]), fun _ => rfl⟩
set_option maxRecDepth 100000 in
set_option maxHeartbeats 800000 in
theorem rdnew_any (sec : Int) (w : World) : Calls Tryz.prog 8 #[.int .i64 sec] w (RetDE w (fun _ => False) (Dsk.make sec)) := by
  by_cases h1 : sec < 1
  · have e : Dsk.make sec = (Dsk.zero, 2) := if_pos (.inl h1)
    rw [e]
    clear e
    go_enter Tryz.func8, Tryz.ntmps8
    go_wp2
    exact bodyPost_ret (v := .tuple #[.agg dskZ, .int .i64 2]) (by simp [results, Tryz.results8, go_sem]) rfl ⟨_, rfl, isD_zero _ _, (Below.refl _ _).alloc (Nat.le_refl _) _⟩
  by_cases h2 : 4096 < sec
  · have e : Dsk.make sec = (Dsk.zero, 2) := if_pos (.inr h2)
    rw [e]
    clear e
    go_enter Tryz.func8, Tryz.ntmps8
    go_wp2
    exact bodyPost_ret (v := .tuple #[.agg dskZ, .int .i64 2]) (by simp [results, Tryz.results8, go_sem]) rfl ⟨_, rfl, isD_zero _ _, (Below.refl _ _).alloc (Nat.le_refl _) _⟩
  have e : Dsk.make sec = (Dsk.new sec, 0) := if_neg (by omega)
  rw [e]
  clear e
  have hb0 := Blk.new w dskZ 34
  have HB0 := Lib.hid hb0
  clear hb0
  go_enter Tryz.func8, Tryz.ntmps8
  go_wp2_with fail
  refine (rnew9_any _).mono ?_
  rintro e w1 ⟨a1, c1, rfl, hl1, hb1⟩
  have HL := Lib.hid hl1; have HB1 := Lib.hid hb1
  clear hl1 hb1
  go_wp2_with fail
  refine (rfnew_any _).mono ?_
  rintro e w2 ⟨rfl, hb2⟩
  have hbl := (HB0.out.onto HB1.out).onto hb2
  obtain ⟨k0, k1, k2, k3, k4, k5, k6, k7, r0, r1, r2, r3, r4, r5, r6, r7⟩ := hbl.eight
  have hX : Below w.heap.size w w2 := ((Below.refl w.heap.size w).alloc (Nat.le_refl _) _).trans ((HB1.out.trans (hb2.mono HB1.out.size)).mono (by simp))
  have hL2 := (HL.out.below (N := w1.heap.size) (fun b hb => by rcases hb with hb | hb; exact hb.elim; exact hb.2) hb2).more (B' := fun b => w.heap.size + 1 ≤ b ∧ b < w2.heap.size) (fun b hb => by
    rcases hb with hb | hb
    · exact hb.elim
    · have := hb2.size; have := hb.1; simp at this; exact ⟨this, by omega⟩)
  have HX := Lib.hid hX; have HL2 := Lib.hid hL2
  clear hbl hb2 hX hL2
  go_wp2
  refine bodyPost_ret (v := .tuple #[dskV sec none 0 0 a1 1 c1 Fus.new 0, .int .i64 0]) (by simp [results, Tryz.results8, go_sem, k0, k1, k2, k3, k4, k5, k6, k7]) rfl ?_
  refine ⟨_, rfl, ⟨none, 0, a1, c1, rfl, fun k hk => absurd hk (by simp [Dsk.new]), ?_, fun _ => rfl⟩, ?_⟩
  · refine LLs.more (B := fun b => w.heap.size + 1 ≤ b ∧ b < w2.heap.size) (HL2.out.keep fun q hq => ?_) (fun b hb => .inr ⟨by omega, by simpa using hb.2⟩)
    iterate 8 rw [World.cell?_setCell_other _ _ _ _ (fun e => by have h2 := congrArg Addr.block e; dsimp only at h2; have := hq.1; omega)]
  · iterate 8 refine Below.setCell ?_ (by simp) _
    exact HX.out

set_option maxRecDepth 100000 in
set_option maxHeartbeats 1600000 in
/-- A file's bytes. -/
theorem rdread_any {M : Nat} {D : Dsk} (hD : D.ok M) (hM : M ≤ 199) (a : Option Addr) (c : Nat) (aL : Option Addr) (cL : Nat) (s : ByteArray) (P : Nat → Prop) (w : World) (hP : ∀ b, P b → b < w.heap.size) (hT : Tps w P a D.tp) (hL : LLs w P aL D.L) :
    Calls Tryz.prog 55 #[dskV D.sec a D.tp.length c aL D.L.length cL D.fu D.calls, .string s] w fun e w' => e = .returned (.tuple #[.string (D.read s).1, .int .i64 (D.read s).2]) ∧ Below w.heap.size w w' := by
  by_cases ho : D.fu.off = true
  · have e : D.read s = (ByteArray.empty, 14) := by unfold Dsk.read; rw [if_pos ho]
    rw [e]
    clear e
    obtain ⟨sec, tp, LL, ⟨p, s0, d0, off⟩, calls⟩ := D
    obtain rfl : off = true := ho
    go_enter Tryz.func55, Tryz.ntmps55
    go_wp2
    go_ret2
    exact ⟨rfl, (Below.refl _ _).alloc (Nat.le_refl _) _⟩
  have ho : D.fu.off = false := by simpa using ho
  have ci := fun (W : World) (h : Below w.heap.size w W) => rdfind_any hD (by omega) a D.tp.length c aL cL s P W (fun b hb => Nat.lt_of_lt_of_le (hP b hb) h.size) (hL.below hP h)
  have hid := D.id_is hD s
  have hnT : D.tp.length ≤ 200 := Nat.le_trans hD.2.1 (Nat.le_succ_of_le hM)
  obtain ⟨i, hi⟩ : ∃ i, D.id s = i := ⟨_, rfl⟩
  rw [hi] at ci hid
  have e : D.read s = if i = 0 then (ByteArray.empty, 8) else ((D.t i).n, 0) := by unfold Dsk.read; rw [if_neg (by rw [ho]; simp), hi]
  have htd : D.t i = D.tp.getD (i - 1).toNat Tp.none := rfl
  rw [e]
  have T := Lib.hid hT
  obtain ⟨ti, hti⟩ : ∃ t, D.t i = t := ⟨_, rfl⟩
  rw [hti] at htd ⊢
  obtain ⟨sec, tp, LL, ⟨p, s0, d0, off⟩, calls⟩ := D
  obtain rfl : off = false := ho
  simp only at ci hid hnT htd T
  have CI := Lib.hid ci; have HTD := Lib.hid htd
  have hb : Below w.heap.size w (w.alloc (.cells (dskC sec a tp.length c aL LL.length cL ⟨p, s0, d0, false⟩ calls) 34)) := (Below.refl _ _).alloc (Nat.le_refl _) _
  have hbl := Blk.new w (dskC sec a tp.length c aL LL.length cL ⟨p, s0, d0, false⟩ calls) 34
  have HB := Lib.hid hb; have HBL := Lib.hid hbl
  clear e hD hT hL ci hi hti htd hb hbl
  by_cases hi0 : i = 0
  · subst hi0
    rw [if_pos rfl]
    go_enter Tryz.func55, Tryz.ntmps55
    go_wp2_with fail
    refine (CI.out _ HB.out).mono ?_
    rintro e wf ⟨rfl, hbf⟩
    have HX := Lib.hid (HB.out.trans (hbf.mono HB.out.size))
    clear hbf
    go_wp2
    go_ret2
    exact ⟨rfl, HX.out⟩
  rw [if_neg hi0]
  have t0 : (i == 0) = false := beq_eq_false_iff_ne.2 hi0
  obtain ⟨i1, i2⟩ : 1 ≤ i ∧ i ≤ tp.length := hid.elim (fun h => absurd h.1 hi0) (fun h => ⟨h.1, h.2.1⟩)
  clear hid
  go_enter Tryz.func55, Tryz.ntmps55
  go_wp2_with fail
  refine (CI.out _ HB.out).mono ?_
  rintro e wf ⟨rfl, hbf⟩
  have hX := HB.out.trans (hbf.mono HB.out.size)
  have b1 := (HBL.out.onto hbf).cell 1 _ rfl
  obtain ⟨ad, m, rfl, rfl, hm, hadb, z0, z1⟩ := (T.out.below hP hX).get i i1 i2
  rw [← HTD.out] at z0 z1
  have d0' : (0 : Int) ≤ (m : Int) := by omega
  have d1' : (m : Int) < (tp.length : Int) := by omega
  have y1 : IntKind.i64.wrap (m : Int) = (m : Int) := IntWalk.i64_in _ (by omega)
  have HX := Lib.hid hX
  clear hbf hX hadb
  go_wp2
  go_ret2
  exact ⟨rfl, HX.out⟩

set_option maxRecDepth 100000 in
set_option maxHeartbeats 1600000 in
theorem rdfault_any {M : Nat} {D : Dsk} (hD : D.ok M) (hM : M ≤ 199) (a : Option Addr) (c : Nat) (aL : Option Addr) (cL : Nat) (kd at1 : Int) (P : Nat → Prop) (w : World) (hP : ∀ b, P b → b < w.heap.size) (hT : Tps w P a D.tp) (hL : LLs w P aL D.L) (hz : a = none → c = 0) :
    Calls Tryz.prog 56 #[dskV D.sec a D.tp.length c aL D.L.length cL D.fu D.calls, .agg #[.int .i64 kd, .int .i64 at1]] w (RetDE w P (D.fault kd at1)) := by
  by_cases ho : D.fu.off = true
  · have e : D.fault kd at1 = (D, 14) := by unfold Dsk.fault; rw [if_pos ho]
    rw [e]
    clear e
    obtain ⟨sec, tp, LL, ⟨p, s0, d0, off⟩, calls⟩ := D
    obtain rfl : off = true := ho
    go_enter Tryz.func56, Tryz.ntmps56
    go_wp2
    refine bodyPost_ret (v := .tuple #[dskV sec a tp.length c aL LL.length cL ⟨p, s0, d0, true⟩ calls, .int .i64 14]) (by simp [results, Tryz.results56, go_sem]) rfl ?_
    exact retDE_mk (D := ⟨sec, tp, LL, ⟨p, s0, d0, true⟩, calls⟩) hP hT hL rfl rfl hz (by exact (((Below.refl _ _).alloc (Nat.le_refl _) _).alloc (by simp) _).alloc (by simp; omega) _)
  have ho : D.fu.off = false := by simpa using ho
  obtain ⟨⟨G, ok⟩, hG⟩ : ∃ r, D.fu.arm kd at1 = r := ⟨_, rfl⟩
  have e : D.fault kd at1 = if ok = false then (D, 2) else (⟨D.sec, D.tp, D.L, G, D.calls⟩, 0) := by unfold Dsk.fault; rw [if_neg (by rw [ho]; simp), hG]
  rw [e]
  have cc := fun W => rfarm_any D.fu kd at1 W
  rw [hG] at cc
  have T := Lib.hid hT; have L := Lib.hid hL
  obtain ⟨sec, tp, LL, ⟨p, s0, d0, off⟩, calls⟩ := D
  obtain rfl : off = false := ho
  simp only at cc
  have k0 := (Blk.new w (dskC sec a tp.length c aL LL.length cL ⟨p, s0, d0, false⟩ calls) 34).alloc (.cells #[.int .i64 kd, .int .i64 at1] 38) |>.alloc (.cells dskZ 34)
  have k2 := Blk.new ((w.alloc (.cells (dskC sec a tp.length c aL LL.length cL ⟨p, s0, d0, false⟩ calls) 34)).alloc (.cells #[.int .i64 kd, .int .i64 at1] 38)) dskZ 34
  have hX : Below w.heap.size w (((w.alloc (.cells (dskC sec a tp.length c aL LL.length cL ⟨p, s0, d0, false⟩ calls) 34)).alloc (.cells #[.int .i64 kd, .int .i64 at1] 38)).alloc (.cells dskZ 34)) := (((Below.refl _ _).alloc (Nat.le_refl _) _).alloc (by simp) _).alloc (by simp; omega) _
  simp only [World.size_alloc] at k2
  have K0 := Lib.hid k0; have K2 := Lib.hid k2; have HX := Lib.hid hX; have CC := Lib.hid cc
  clear e hG hD hT hL k0 k2 hX cc
  cases ok with
  | false =>
    rw [if_pos rfl]
    go_enter Tryz.func56, Tryz.ntmps56
    go_wp2_with fail
    refine (CC.out _).mono ?_
    rintro e w2 ⟨rfl, hb2⟩
    have hX2 := HX.out.trans (hb2.mono HX.out.size)
    obtain ⟨b0, b1, b2, b3, b4, b5, b6, b7, q0, q1, q2, q3, q4, q5, q6, q7⟩ := (K0.out.onto hb2).eight
    obtain ⟨k0, k1, k2, k3, k4, k5, k6, k7, r0, r1, r2, r3, r4, r5, r6, r7⟩ := (K2.out.onto hb2).eight
    obtain ⟨lt0, lt1⟩ : w.heap.size < w2.heap.size ∧ w.heap.size + 1 + 1 < w2.heap.size := ⟨(K0.out.onto hb2).lt, (K2.out.onto hb2).lt⟩
    have HX2 := Lib.hid hX2
    clear hX2 hb2
    go_wp2
    refine bodyPost_ret (v := .tuple #[dskV sec a tp.length c aL LL.length cL ⟨p, s0, d0, false⟩ calls, .int .i64 2]) (by simp [results, Tryz.results56, go_sem, k0, k1, k2, k3, k4, k5, k6, k7, lt1]) rfl ?_
    refine retDE_mk (D := ⟨sec, tp, LL, ⟨p, s0, d0, false⟩, calls⟩) hP T.out L.out rfl rfl hz ?_
    refine Below.alloc ?_ (by simpa using HX2.out.size) _
    iterate 8 refine Below.setCell ?_ (by simp; omega) _
    exact HX2.out
  | true =>
    rw [if_neg (by simp)]
    go_enter Tryz.func56, Tryz.ntmps56
    go_wp2_with fail
    refine (CC.out _).mono ?_
    rintro e w2 ⟨rfl, hb2⟩
    have hX2 := HX.out.trans (hb2.mono HX.out.size)
    obtain ⟨b0, b1, b2, b3, b4, b5, b6, b7, q0, q1, q2, q3, q4, q5, q6, q7⟩ := (K0.out.onto hb2).eight
    obtain ⟨k0, k1, k2, k3, k4, k5, k6, k7, r0, r1, r2, r3, r4, r5, r6, r7⟩ := (K2.out.onto hb2).eight
    obtain ⟨lt0, lt1⟩ : w.heap.size < w2.heap.size ∧ w.heap.size + 1 + 1 < w2.heap.size := ⟨(K0.out.onto hb2).lt, (K2.out.onto hb2).lt⟩
    have HX2 := Lib.hid hX2
    clear hX2 hb2
    go_wp2
    refine bodyPost_ret (v := .tuple #[dskV sec a tp.length c aL LL.length cL G calls, .int .i64 0]) (by simp [results, Tryz.results56, go_sem, k0, k1, k2, k3, k4, k5, k6, k7, lt1]) rfl ?_
    refine retDE_mk (D := ⟨sec, tp, LL, G, calls⟩) hP T.out L.out rfl rfl hz ?_
    refine Below.alloc ?_ (by simpa using HX2.out.size) _
    iterate 8 refine Below.setCell ?_ (by simp; omega) _
    iterate 4 refine Below.setCell ?_ (by simp) _
    exact HX2.out
end Go.Proofs.YtfgecjlccngddaaGreat
