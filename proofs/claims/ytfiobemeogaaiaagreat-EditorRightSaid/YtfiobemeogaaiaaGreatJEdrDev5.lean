/-
  Joined: EdrDev5, EdrDev6, EdrDev7, LawEdr.
-/
import Derived.Test.YtfiobemeogaaiaaGreatSq
import Derived.Test.YtfiobemeogaaiaaGreatJEdrMath
import Derived.Test.YtfiobemeogaaiaaGreatJStepRef2
import Derived.Laws.ByValue
import Derived.Test.YtfiobemeogaaiaaGreatJWeldOf
import Derived.Test.YtfiobemeogaaiaaGreatJStaRight
namespace Go.Proofs.YtfiobemeogaaiaaGreat
open Lib (hid)
open Go.RowKit
set_option linter.unusedVariables false
set_option linter.unusedSimpArgs false
set_option maxRecDepth 100000 in
set_option maxHeartbeats 400000 in
theorem ed_id (a : Option Addr) (n c : Nat) (w : World) : Calls Tryz.prog 108 #[stpV a n c] w fun e w' => e = .returned (stpV a n c) ∧ Below w.heap.size w w' := by
  obtain ⟨W, hW, k0, k1, hb, hz⟩ := box2 w #[.slice a n c] #[.slice a n c] 69 69
  clear hW k0 k1 hb hz W
  go_enter Tryz.func108, Tryz.ntmps108
  go_wp2
  refine bodyPost_ret (results_cell_row (P := Tryz.prog) (fn := Tryz.f108) (p := 2) (ty := 69) rfl _ _ (w.heap.size + 1) 69 _ (0, 0) _ rfl (by have h := Blk.new (w.alloc (.cells #[.slice a n c] 69)) #[.slice a n c] 69; rw [World.size_alloc] at h; exact h) Tryz.underlying69 rfl (by kernel_rfl)) rfl ?_
  exact ⟨rfl, below2 _ _ _⟩
set_option maxRecDepth 100000 in
set_option maxHeartbeats 800000 in
theorem ed_turn_undo_open {w : World} {b : Nat} {t : ByteArray} {m : KPc} {u ro : SPc} {g : EPc} {rb : Nat} {p : Option Addr} {L : List ByteArray} (h : IsEd w b ⟨t, m, u, ro, true, g⟩ rb p L) : Calls Tryz.prog 107 #[.pointer (some ⟨b, 0, none⟩), .pointer (some ⟨b, 4, none⟩), .pointer (some ⟨b, 5, none⟩), .func (.func 88) #[] #[]] w (RetEd w b ((Sta.d ⟨t, m, u, ro, true, g⟩), 11)) := by
  have hbl : b < w.heap.size := h.lt
  have KO0 := hid (show Blk w b #[.bool true, .pointer (some ⟨rb, 0, none⟩), .string ⟨#[]⟩, .slice m.a m.l.length m.c, .slice u.a u.l.length u.c, .slice ro.a ro.l.length ro.c, .bool true, .slice g.a g.l.length g.c] 54 from h.blk)
  have RS0 := hid (h.rows)
  have HB0 := hid ((Apart.refl [b] w))
  have HW0 := hid (Below.refl w.heap.size w)
  have HG0 := hid (Nat.le_refl w.heap.size)
  have hlt2 : ∀ W : World, w.heap.size ≤ W.heap.size → ∀ i ∈ [b], i < W.heap.size := fun W h i hi => by rw [List.mem_singleton.1 hi]; omega
  have HLT := hid hlt2; have H := hid h
  clear hlt2
  obtain ⟨zO0_0, zO0_1, zO0_2, zO0_3, zO0_4, zO0_5, zO0_6, zO0_7, fO0_0, fO0_1, fO0_2, fO0_3, fO0_4, fO0_5, fO0_6, fO0_7⟩ := KO0.out.all8
  clear h
  go_enter Tryz.func107, Tryz.ntmps107
  go_wp2
  go_ret
  exact ⟨⟨t, m, u, ro, true, g⟩, rb, p, L, rfl, ⟨KO0.out, H.out.rope.apart H.out.blk rfl HB0.out, RS0.out, H.out.ml, H.out.mc, H.out.inv⟩, rfl, HB0.out⟩
set_option maxRecDepth 100000 in
set_option maxHeartbeats 800000 in
theorem ed_turn_undo_none {w : World} {b : Nat} {t : ByteArray} {m : KPc} {u ro : SPc} {g : EPc} {rb : Nat} {p : Option Addr} {L : List ByteArray} (h : IsEd w b ⟨t, m, u, ro, false, g⟩ rb p L) (h0 : u.l.length = 0) : Calls Tryz.prog 107 #[.pointer (some ⟨b, 0, none⟩), .pointer (some ⟨b, 4, none⟩), .pointer (some ⟨b, 5, none⟩), .func (.func 88) #[] #[]] w (RetEd w b ((Sta.d ⟨t, m, u, ro, false, g⟩), 10)) := by
  have hbl : b < w.heap.size := h.lt
  have KO0 := hid (show Blk w b #[.bool true, .pointer (some ⟨rb, 0, none⟩), .string ⟨#[]⟩, .slice m.a m.l.length m.c, .slice u.a u.l.length u.c, .slice ro.a ro.l.length ro.c, .bool false, .slice g.a g.l.length g.c] 54 from h.blk)
  have RS0 := hid (h.rows)
  have HB0 := hid ((Apart.refl [b] w))
  have HW0 := hid (Below.refl w.heap.size w)
  have HG0 := hid (Nat.le_refl w.heap.size)
  have hlt2 : ∀ W : World, w.heap.size ≤ W.heap.size → ∀ i ∈ [b], i < W.heap.size := fun W h i hi => by rw [List.mem_singleton.1 hi]; omega
  have HLT := hid hlt2; have H := hid h
  clear hlt2
  obtain ⟨zO0_0, zO0_1, zO0_2, zO0_3, zO0_4, zO0_5, zO0_6, zO0_7, fO0_0, fO0_1, fO0_2, fO0_3, fO0_4, fO0_5, fO0_6, fO0_7⟩ := KO0.out.all8
  have c0 : u.l.length = 0 := h0
  have cp := fun W => stk_pop_none u.a u.c W
  have CPP := hid (show ∀ W, Calls Tryz.prog 138 #[.slice u.a u.l.length u.c] W _ from fun W => by rw [h0]; exact cp W)
  clear cp h c0 h0
  go_enter Tryz.func107, Tryz.ntmps107
  go_wp2_with fail
  refine (CPP.out _).mono ?_; rintro e w1 ⟨rfl, hb⟩
  clear zO0_0 zO0_1 zO0_2 zO0_3 zO0_4 zO0_5 zO0_6 zO0_7 fO0_0 fO0_1 fO0_2 fO0_3 fO0_4 fO0_5 fO0_6 fO0_7
  have KO1 := hid (KO0.out.onto hb)
  have RS1 := hid (RS0.out.later hb)
  have HB1 := hid (HB0.out.trans (S' := []) (.of_below hb) (by simp))
  have HG1 := hid (Nat.le_trans HG0.out hb.size)
  have HW1 := hid (HW0.out.trans (hb.mono HW0.out.size))
  clear hb CPP KO0 RS0 HB0 HG0
  obtain ⟨zO1_0, zO1_1, zO1_2, zO1_3, zO1_4, zO1_5, zO1_6, zO1_7, fO1_0, fO1_1, fO1_2, fO1_3, fO1_4, fO1_5, fO1_6, fO1_7⟩ := KO1.out.all8
  go_wp2
  go_ret
  have hbw := HW1.out.alloc HW1.out.size (.cells #[.slice none 0 0] 69)
  exact ⟨⟨t, m, u, ro, false, g⟩, rb, p, L, rfl, H.out.later hbw, rfl, .of_below hbw⟩
set_option maxRecDepth 100000 in
set_option maxHeartbeats 1600000 in
theorem ed_turn_undo_yes {w : World} {b : Nat} {t : ByteArray} {m : KPc} {u ro : SPc} {g : EPc} {rb : Nat} {p : Option Addr} {L : List ByteArray} (h : IsEd w b ⟨t, m, u, ro, false, g⟩ rb p L) (k : Nat) (hn : u.l.length = k + 1) : Calls Tryz.prog 107 #[.pointer (some ⟨b, 0, none⟩), .pointer (some ⟨b, 4, none⟩), .pointer (some ⟨b, 5, none⟩), .func (.func 88) #[] #[]] w (RetEd w b (undoD (Sta.d ⟨t, m, u, ro, false, g⟩))) := by
  have hbl : b < w.heap.size := h.lt
  have hk' : (lsP u.l).length = k + 1 := by rw [lsP_len]; exact hn
  have hst : (lsP u.l)[k]! = (u.l[k]!).l := lsP_get u.l k (by omega)
  obtain ⟨t', hrun, hv, hz⟩ := undo_run h.inv rfl hk'
  have hyes := undoD_yes (s := Sta.d ⟨t, m, u, ro, false, g⟩) rfl hk' hrun
  have hie := inv_undo h.inv
  have hlen := (h.inv.ul.2 _ (get_mem (L := lsP u.l) (k := k) (by omega))).2
  have hok := okE5_inv (h.inv.ue _ (get_mem (L := lsP u.l) (k := k) (by omega)))
  have hz9 : ∀ x ∈ u.l, x.l.length ≤ 1000000 := lsP_all fun y hy => Nat.le_trans (h.inv.ul.2 y hy).2 (by decide)
  have hk9 : k ≤ 900 := by have h2 : (lsP u.l).length ≤ 16 := h.inv.ul.1; omega
  have htl : ro.l.length ≤ 900 ∧ ∀ x ∈ ro.l, x.l.length ≤ 1000000 := by
    have h2 : (lsP ro.l).length ≤ 16 := h.inv.rl.1
    rw [lsP_len] at h2
    exact ⟨by omega, lsP_all fun y hy => Nat.le_trans (h.inv.rl.2 y hy).2 (by decide)⟩
  replace hyes : undoD (Sta.d ⟨t, m, u, ro, false, g⟩) = ((⟨t', shfL m.l (invL (lsP u.l)[k]!), (lsP u.l).take k, pushL (lsP ro.l) (lsP u.l)[k]!, false, g.l⟩ : StaD), 0) := hyes
  rw [hyes] at hie ⊢
  replace hrun : runE t (invL (lsP u.l)[k]!) = (t', 0) := hrun
  replace hok : ∀ x ∈ invL (lsP u.l)[k]!, okE5 x = true := hok
  rw [hst] at hrun hlen hok hie ⊢
  obtain ⟨sl, hsl⟩ : ∃ sl, (u.l[k]!).l = sl := ⟨_, rfl⟩
  rw [hsl] at hrun hlen hok hie ⊢
  obtain ⟨rl, hrl⟩ : ∃ rl, invL sl = rl := ⟨_, rfl⟩
  have hrz : rl.length ≤ 32 := by rw [← hrl, invL_len]; exact hlen
  rw [hrl] at hrun hok hie ⊢
  have hms := h.inv.shown hrun
  have hez := h.inv.edz hok
  have hep := run_in (t := t) h.inv.z hrun
  have hof : ofE t' = 0 := ofE_yes hv hz
  have htz : t.size ≤ 4096 := h.inv.z
  have hml : m.l.length ≤ 1000000 := Nat.le_trans h.inv.ml (by decide)
  have hmc : m.l.length ≤ m.c ∧ m.c ≤ maxLen := ⟨h.ml, h.mc⟩
  have HRUN := hid hrun; have HMS := hid hms; have HEZ := hid hez; have HEP := hid hep; have HOF := hid hof; have HML := hid hml; have HMC := hid hmc; have HI := hid hie; have HTL := hid htl; have HSL := hid hsl
  clear hrun hms hez hep hof hml hmc hie htl hyes hok hst hk' hv
  have KO0 := hid (show Blk w b #[.bool true, .pointer (some ⟨rb, 0, none⟩), .string ⟨#[]⟩, .slice m.a m.l.length m.c, .slice u.a u.l.length u.c, .slice ro.a ro.l.length ro.c, .bool false, .slice g.a g.l.length g.c] 54 from h.blk)
  have RS0 := hid (h.rows)
  have HB0 := hid ((Apart.refl [b] w))
  have HW0 := hid (Below.refl w.heap.size w)
  have HG0 := hid (Nat.le_refl w.heap.size)
  have hlt2 : ∀ W : World, w.heap.size ≤ W.heap.size → ∀ i ∈ [b], i < W.heap.size := fun W h i hi => by rw [List.mem_singleton.1 hi]; omega
  have HLT := hid hlt2; have H := hid h
  clear hlt2
  obtain ⟨zO0_0, zO0_1, zO0_2, zO0_3, zO0_4, zO0_5, zO0_6, zO0_7, fO0_0, fO0_1, fO0_2, fO0_3, fO0_4, fO0_5, fO0_6, fO0_7⟩ := KO0.out.all8
  have cp := fun W (hW : Below w.heap.size w W) => (stk_pop_some u.a u.l u.c k W (h.rows.u.later hW).in hn hk9 hz9).mono fun e w' hh => ret_pop_off (S := [b]) hh (HLT.out W hW.size)
  rw [← hn] at cp
  simp only [HSL.out] at cp
  clear hn hk9 hz9
  have ct := fun W (hW : Below w.heap.size w W) => ro_text (h.rope.later hW)
  have CT := hid ct; have CPP := hid cp
  clear cp ct h
  go_enter Tryz.func107, Tryz.ntmps107
  go_wp2_with fail
  refine (CPP.out _ (Below.refl _ _)).mono ?_; rintro e w1 ⟨⟨xa, xl, xc⟩, a2, c2, rfl, hxl, hsx, he2, hb⟩
  clear zO0_0 zO0_1 zO0_2 zO0_3 zO0_4 zO0_5 zO0_6 zO0_7 fO0_0 fO0_1 fO0_2 fO0_3 fO0_4 fO0_5 fO0_6 fO0_7
  have KO1 := hid (KO0.out.onto hb)
  have RS1 := hid (RS0.out.later hb)
  have HB1 := hid (HB0.out.trans (S' := []) (.of_below hb) (by simp))
  have HG1 := hid (Nat.le_trans HG0.out hb.size)
  have HW1 := hid (HW0.out.trans (hb.mono HW0.out.size))
  have HXL := hid hxl
  have RX1 := hid (hsx)
  have RE1 := hid (he2)
  clear hb hxl hsx he2 CPP KO0 RS0 HB0 HG0
  obtain ⟨zO1_0, zO1_1, zO1_2, zO1_3, zO1_4, zO1_5, zO1_6, zO1_7, fO1_0, fO1_1, fO1_2, fO1_3, fO1_4, fO1_5, fO1_6, fO1_7⟩ := KO1.out.all8
  have hxa1 : w.heap.size ≤ w1.heap.size := HG1.out
  obtain ⟨wA1, hwA1, kA, hbA, hzA⟩ := box1 w1 #[.slice a2 sl.length c2] 69
  have KO2 := hid (KO1.out.onto hbA)
  have RS2 := hid (RS1.out.later hbA)
  have RX2 := hid (RX1.out.later hbA)
  have RE2 := hid (RE1.out.later hbA)
  have HB2 := hid (HB1.out.trans (S' := []) (.of_below hbA) (by simp))
  have HG2 := hid (Nat.le_trans HG1.out hbA.size)
  have HW2 := hid (HW1.out.trans (hbA.mono HW1.out.size))
  have KP2 := hid kA
  have hzz1 : w1.heap.size < wA1.heap.size := by omega
  have HZP := hid hzz1
  clear kA hbA hzA hzz1 KO1 RS1 RX1 RE1 HB1 HG1
  obtain ⟨zO2_0, zO2_1, zO2_2, zO2_3, zO2_4, zO2_5, zO2_6, zO2_7, fO2_0, fO2_1, fO2_2, fO2_3, fO2_4, fO2_5, fO2_6, fO2_7⟩ := KO2.out.all8
  obtain ⟨zP2_0, fP2_0⟩ := KP2.out.all1
  have ci := sinv_any a2 sl c2 wA1 RE2.out.in.row (by omega)
  rw [hrl] at ci
  have CI := hid ci
  clear ci
  go_wp2_with fail
  refine (CI.out).mono ?_; rintro e w3 ⟨ra, rc, rfl, hrr, hb⟩
  clear zO1_0 zO1_1 zO1_2 zO1_3 zO1_4 zO1_5 zO1_6 zO1_7 fO1_0 fO1_1 fO1_2 fO1_3 fO1_4 fO1_5 fO1_6 fO1_7 hwA1 zO2_0 zO2_1 zO2_2 zO2_3 zO2_4 zO2_5 zO2_6 zO2_7 fO2_0 fO2_1 fO2_2 fO2_3 fO2_4 fO2_5 fO2_6 fO2_7 zP2_0 fP2_0
  have KO3 := hid (KO2.out.onto hb)
  have KP3 := hid (KP2.out.onto hb)
  have RS3 := hid (RS2.out.later hb)
  have RX3 := hid (RX2.out.later hb)
  have RE3 := hid (RE2.out.later hb)
  have HB3 := hid (HB2.out.trans (S' := []) (.of_below hb) (by simp))
  have HG3 := hid (Nat.le_trans HG2.out hb.size)
  have HW3 := hid (HW2.out.trans (hb.mono HW2.out.size))
  have RQ3 := hid (hrr.off (HLT.out _ HG2.out))
  clear hb hrr CI KO2 KP2 RS2 RX2 RE2 HB2 HG2
  obtain ⟨zO3_0, zO3_1, zO3_2, zO3_3, zO3_4, zO3_5, zO3_6, zO3_7, fO3_0, fO3_1, fO3_2, fO3_3, fO3_4, fO3_5, fO3_6, fO3_7⟩ := KO3.out.all8
  obtain ⟨zP3_0, fP3_0⟩ := KP3.out.all1
  have hxa3 : w.heap.size ≤ w3.heap.size := HG3.out
  obtain ⟨wA3, hwA3, kA, hbA, hzA⟩ := box1 w3 #[.slice ra rl.length rc] 69
  have KO4 := hid (KO3.out.onto hbA)
  have KP4 := hid (KP3.out.onto hbA)
  have RS4 := hid (RS3.out.later hbA)
  have RX4 := hid (RX3.out.later hbA)
  have RE4 := hid (RE3.out.later hbA)
  have RQ4 := hid (RQ3.out.later hbA)
  have HB4 := hid (HB3.out.trans (S' := []) (.of_below hbA) (by simp))
  have HG4 := hid (Nat.le_trans HG3.out hbA.size)
  have HW4 := hid (HW3.out.trans (hbA.mono HW3.out.size))
  have KQ4 := hid kA
  have hzz3 : w3.heap.size < wA3.heap.size := by omega
  have HZQ := hid hzz3
  clear kA hbA hzA hzz3 KO3 KP3 RS3 RX3 RE3 RQ3 HB3 HG3
  obtain ⟨zO4_0, zO4_1, zO4_2, zO4_3, zO4_4, zO4_5, zO4_6, zO4_7, fO4_0, fO4_1, fO4_2, fO4_3, fO4_4, fO4_5, fO4_6, fO4_7⟩ := KO4.out.all8
  obtain ⟨zP4_0, fP4_0⟩ := KP4.out.all1
  obtain ⟨zQ4_0, fQ4_0⟩ := KQ4.out.all1
  have cr := fun W (hW : Below wA3.heap.size wA3 W) => srun_any t ra rl rc W (RQ4.out.later hW).in.row (by omega) (by omega) HEZ.out
  rw [HRUN.out] at cr
  have CR := hid cr
  clear cr
  have hfs : ∀ W, Below wA3.heap.size wA3 W → W.cell? ⟨b, 1, none⟩ = some (.pointer (some ⟨rb, 0, none⟩)) ∧ W.cell? ⟨w3.heap.size, 0, none⟩ = some (.slice ra rl.length rc) := fun W h => ⟨(KO4.out.onto h).cell 1 _ rfl, (KQ4.out.onto h).cell 0 _ rfl⟩
  have FS := hid hfs
  clear hfs
  go_wp2_with fail
  clear zO3_0 zO3_1 zO3_2 zO3_3 zO3_4 zO3_5 zO3_6 zO3_7 fO3_0 fO3_1 fO3_2 fO3_3 fO3_4 fO3_5 fO3_6 fO3_7 zP3_0 fP3_0 hwA3 zO4_0 zO4_1 zO4_2 zO4_3 zO4_4 zO4_5 zO4_6 zO4_7 fO4_0 fO4_1 fO4_2 fO4_3 fO4_4 fO4_5 fO4_6 fO4_7 zP4_0 fP4_0 zQ4_0 fQ4_0
  refine wp_region_held_drew (S := (fun W : World => W.cell? ⟨b, 1, none⟩ = some (.pointer (some ⟨rb, 0, none⟩)) ∧ W.cell? ⟨w3.heap.size, 0, none⟩ = some (.slice ra rl.length rc))) (by kernel_rfl) (FS.out _ (Below.refl _ _).drew) (fun hHeld => ?_)
  refine sqt 0 ?_
  try simp only [Act.put, sqp]
  refine sqt 1 ?_
  try simp only [Act.put, sqp]
  refine sqt 2 ?_
  try simp only [Act.put, sqp]
  refine sqt 3 ?_
  try simp only [Act.put, sqp]
  refine sqt 5 ?_
  try simp only [Act.put, sqp]
  refine wpAnyH_ready (rs := [4]) (by kernel_rfl) (by simp) ?_
  refine AllReadyH.cons (by simp only [sqg]; rfl) (fun K hK => ?_) AllReadyH.nil
  go_simp
  (go_at_call 19; refine (CT.out _ HW4.out.drew).mono ?_; rintro e y1 ⟨rfl, hb1⟩; have hb1' : Below wA3.heap.size wA3 y1 := (Below.refl _ _).drew.trans hb1)
  try go_wp2_with fail
  refine hK.out _ _ ?_ (fun hHeld => ?_)
  · exact FS.out _ hb1'
  clear hK K
  try simp only [Act.put, sqp]
  refine wpAnyH_ready (rs := [6]) (by kernel_rfl) (by simp) ?_
  refine AllReadyH.cons (by simp only [sqg]; rfl) (fun K hK => ?_) AllReadyH.nil
  go_simp
  (go_at_call 90; refine (CR.out _ hb1').mono ?_; rintro e y2 ⟨rfl, hb2⟩; have hb2' : Below wA3.heap.size wA3 y2 := hb1'.trans (hb2.mono hb1'.size))
  try go_wp2_with fail
  refine hK.out _ _ ?_ (fun hHeld => ?_)
  · exact FS.out _ hb2'
  clear hK K
  try simp only [Act.put, sqp]
  refine sqt 7 ?_
  try simp only [Act.put, sqp]
  refine sqt 8 ?_
  try simp only [Act.put, sqp]
  refine sqt 9 ?_
  try simp only [Act.put, sqp]
  refine sqt 10 ?_
  try simp only [Act.put, sqp]
  refine sqt 11 ?_
  try simp only [Act.put, sqp]
  refine wpAnyH_done (by kernel_rfl) ?_ _
  have KO5 := hid (KO4.out.onto hb2')
  have KP5 := hid (KP4.out.onto hb2')
  have KQ5 := hid (KQ4.out.onto hb2')
  have RS5 := hid (RS4.out.later hb2')
  have RX5 := hid (RX4.out.later hb2')
  have RE5 := hid (RE4.out.later hb2')
  have RQ5 := hid (RQ4.out.later hb2')
  have HB5 := hid (HB4.out.trans (S' := []) (.of_below hb2') (by simp))
  have HG5 := hid (Nat.le_trans HG4.out hb2'.size)
  have HW5 := hid (HW4.out.trans (hb2'.mono HW4.out.size))
  clear hb1 hb1' hb2 hb2' CT CR FS KO4 KP4 KQ4 RS4 RX4 RE4 RQ4 HB4 HG4
  obtain ⟨zO5_0, zO5_1, zO5_2, zO5_3, zO5_4, zO5_5, zO5_6, zO5_7, fO5_0, fO5_1, fO5_2, fO5_3, fO5_4, fO5_5, fO5_6, fO5_7⟩ := KO5.out.all8
  obtain ⟨zP5_0, fP5_0⟩ := KP5.out.all1
  obtain ⟨zQ5_0, fQ5_0⟩ := KQ5.out.all1
  have co := (ro_of t' (by unfold maxLen; omega) y2).mono fun e w' h => h.yes HOF.out
  have CO := hid co
  clear co
  go_wp2_with fail
  refine (CO.out).mono ?_; rintro e w6 ⟨rb', p', L', rfl, hR, hb⟩
  clear zO5_0 zO5_1 zO5_2 zO5_3 zO5_4 zO5_5 zO5_6 zO5_7 fO5_0 fO5_1 fO5_2 fO5_3 fO5_4 fO5_5 fO5_6 fO5_7 zP5_0 fP5_0 zQ5_0 fQ5_0
  have KO6 := hid (KO5.out.onto hb)
  have KP6 := hid (KP5.out.onto hb)
  have KQ6 := hid (KQ5.out.onto hb)
  have RS6 := hid (RS5.out.later hb)
  have RX6 := hid (RX5.out.later hb)
  have RE6 := hid (RE5.out.later hb)
  have RQ6 := hid (RQ5.out.later hb)
  have HB6 := hid (HB5.out.trans (S' := []) (.of_below hb) (by simp))
  have HG6 := hid (Nat.le_trans HG5.out hb.size)
  have HW6 := hid (HW5.out.trans (hb.mono HW5.out.size))
  have RN6 := hid (hR)
  clear hb hR CO KO5 KP5 KQ5 RS5 RX5 RE5 RQ5 HB5 HG5
  obtain ⟨zO6_0, zO6_1, zO6_2, zO6_3, zO6_4, zO6_5, zO6_6, zO6_7, fO6_0, fO6_1, fO6_2, fO6_3, fO6_4, fO6_5, fO6_6, fO6_7⟩ := KO6.out.all8
  obtain ⟨zP6_0, fP6_0⟩ := KP6.out.all1
  obtain ⟨zQ6_0, fQ6_0⟩ := KQ6.out.all1
  have cq := fun W (hW : Below w6.heap.size w6 W) => (stk_push_any ro.a ro.l ro.c ⟨a2, sl, c2⟩ W (RS6.out.r.later hW).in (RE6.out.later hW).in HTL.out.1 HTL.out.2 (by show sl.length ≤ 1000000; omega)).mono fun e w' hh => ret_stk_off (S := [b]) hh (HLT.out W (Nat.le_trans HG6.out hW.size))
  have CQ := hid cq
  clear cq
  have q5 : w6.drew.cell? ⟨b, 5, none⟩ = some (.slice ro.a ro.l.length ro.c) := zO6_5
  go_wp2_with fail
  clear zO6_0 zO6_1 zO6_2 zO6_3 zO6_4 zO6_5 zO6_6 zO6_7 fO6_0 fO6_1 fO6_2 fO6_3 fO6_4 fO6_5 fO6_6 fO6_7 zP6_0 fP6_0 zQ6_0 fQ6_0
  refine wp_region_held_drew (S := (fun W : World => W.cell? ⟨w1.heap.size, 0, none⟩ = some (.slice a2 sl.length c2))) (by kernel_rfl) (KP6.out.cell 0 _ rfl) (fun hHeld => ?_)
  refine sqt 0 ?_
  try simp only [Act.put, sqp]
  refine sqt 1 ?_
  try simp only [Act.put, sqp]
  refine sqt 2 ?_
  try simp only [Act.put, sqp]
  refine sqt 3 ?_
  try simp only [Act.put, sqp]
  refine sqt 4 ?_
  try simp only [Act.put, sqp]
  refine sqt 6 ?_
  try simp only [Act.put, sqp]
  refine wpAnyH_ready (rs := [5]) (by kernel_rfl) (by simp) ?_
  refine AllReadyH.cons (by simp only [sqg]; rfl) (fun K hK => ?_) AllReadyH.nil
  go_simp
  skip
  try go_wp2_with fail
  refine hK.out _ _ ?_ (fun hHeld => ?_)
  · exact hHeld
  clear hK K
  try simp only [Act.put, sqp]
  refine wpAnyH_ready (rs := [7]) (by kernel_rfl) (by simp) ?_
  refine AllReadyH.cons (by simp only [sqg]; rfl) (fun K hK => ?_) AllReadyH.nil
  go_simp
  (go_at_call 139; refine (CQ.out _ (Below.refl _ _).drew).mono ?_; rintro e y3 ⟨⟨za, zl, zc⟩, rfl, hzl, hsz, hb3⟩; have hb3' : Below w6.heap.size w6 y3 := (Below.refl _ _).drew.trans hb3)
  try go_wp2_with fail
  refine hK.out _ _ ?_ (fun hHeld => ?_)
  · exact (KP6.out.onto hb3').cell 0 _ rfl
  clear hK K
  try simp only [Act.put, sqp]
  clear q5
  have KO7 := hid (KO6.out.onto hb3')
  have KP7 := hid (KP6.out.onto hb3')
  have KQ7 := hid (KQ6.out.onto hb3')
  have RS7 := hid (RS6.out.later hb3')
  have RX7 := hid (RX6.out.later hb3')
  have RE7 := hid (RE6.out.later hb3')
  have RQ7 := hid (RQ6.out.later hb3')
  have RN7 := hid (RN6.out.later hb3')
  have HB7 := hid (HB6.out.trans (S' := []) (.of_below hb3') (by simp))
  have HG7 := hid (Nat.le_trans HG6.out hb3'.size)
  have HW7 := hid (HW6.out.trans (hb3'.mono HW6.out.size))
  have HZL := hid hzl; have RZ7 := hid hsz
  clear hzl hsz hb3 hb3' CQ KO6 KP6 KQ6 RS6 RX6 RE6 RQ6 RN6 HB6 HG6
  obtain ⟨zO7_0, zO7_1, zO7_2, zO7_3, zO7_4, zO7_5, zO7_6, zO7_7, fO7_0, fO7_1, fO7_2, fO7_3, fO7_4, fO7_5, fO7_6, fO7_7⟩ := KO7.out.all8
  obtain ⟨zP7_0, fP7_0⟩ := KP7.out.all1
  obtain ⟨zQ7_0, fQ7_0⟩ := KQ7.out.all1
  refine sqt 8 ?_
  try simp only [Act.put, sqp]
  refine wpAnyH_ready (rs := [9]) (by kernel_rfl) (by simp) ?_
  refine AllReadyH.cons (by simp only [sqg]; rfl) (fun K hK => ?_) AllReadyH.nil
  go_simp
  skip
  try go_wp2_with fail
  refine hK.out _ _ ?_ (fun hHeld => ?_)
  · exact (KP7.out.other ⟨b, 4, none⟩ (by show b ≠ w1.heap.size; omega) _).cell 0 _ rfl
  clear hK K
  try simp only [Act.put, sqp]
  refine sqt 10 ?_
  try simp only [Act.put, sqp]
  have kO : Blk (y3.setCell ⟨b, 4, none⟩ (.slice xa xl.length xc)) (b) #[.bool true, .pointer (some ⟨rb, 0, none⟩), .string ⟨#[]⟩, .slice m.a m.l.length m.c, .slice xa xl.length xc, .slice ro.a ro.l.length ro.c, .bool false, .slice g.a g.l.length g.c] 54 := (KO7.out.set 4 _)
  have kP : Blk (y3.setCell ⟨b, 4, none⟩ (.slice xa xl.length xc)) (w1.heap.size) #[.slice a2 sl.length c2] 69 := (KP7.out.other ⟨b, 4, none⟩ (by show b ≠ w1.heap.size; omega) _)
  have kQ : Blk (y3.setCell ⟨b, 4, none⟩ (.slice xa xl.length xc)) (w3.heap.size) #[.slice ra rl.length rc] 69 := (KQ7.out.other ⟨b, 4, none⟩ (by show b ≠ w3.heap.size; omega) _)
  have ap : Apart [b] y3 (y3.setCell ⟨b, 4, none⟩ (.slice xa xl.length xc)) := (Apart.refl [b] y3).setCell (p := ⟨b, 4, none⟩) (.inl (by simp)) _
  have rS := RS7.out.apart ap
  have rX := RX7.out.apart ap
  have rE := RE7.out.apart ap
  have rQ := RQ7.out.apart ap
  have rN := RopeW.apart RN7.out KO7.out rfl ap
  have rZ := RZ7.out.apart ap
  have hB := ((HB7.out.setCell (p := ⟨b, 4, none⟩) (by simp) _) : Apart [b] w (y3.setCell ⟨b, 4, none⟩ (.slice xa xl.length xc)))
  have hz : (y3.setCell ⟨b, 4, none⟩ (.slice xa xl.length xc)).heap.size = y3.heap.size := by simp
  obtain ⟨v8, hv8⟩ : ∃ V, (y3.setCell ⟨b, 4, none⟩ (.slice xa xl.length xc)) = V := ⟨_, rfl⟩
  rw [hv8] at kO kP kQ rS rX rE rQ rN rZ hB hz
  rw [hv8]
  have KO8 := hid kO
  have KP8 := hid kP
  have KQ8 := hid kQ
  have RS8 := hid rS
  have RX8 := hid rX
  have RE8 := hid rE
  have RQ8 := hid rQ
  have RN8 := hid rN
  have RZ8 := hid rZ
  have HB8 := hid hB
  have HG8 := hid (Nat.le_trans HG7.out (Nat.le_of_eq hz.symm))
  clear kO kP kQ rS rX rE rQ rN rZ hB hz ap KO7 KP7 KQ7 RS7 RX7 RE7 RQ7 RN7 RZ7 HB7 HG7
  obtain ⟨zO8_0, zO8_1, zO8_2, zO8_3, zO8_4, zO8_5, zO8_6, zO8_7, fO8_0, fO8_1, fO8_2, fO8_3, fO8_4, fO8_5, fO8_6, fO8_7⟩ := KO8.out.all8
  obtain ⟨zP8_0, fP8_0⟩ := KP8.out.all1
  obtain ⟨zQ8_0, fQ8_0⟩ := KQ8.out.all1
  refine wpAnyH_ready (rs := [11]) (by kernel_rfl) (by simp) ?_
  refine AllReadyH.cons (by simp only [sqg]; rfl) (fun K hK => ?_) AllReadyH.nil
  go_simp
  skip
  try go_wp2_with fail
  refine hK.out _ _ ?_ (fun hHeld => ?_)
  · exact (KP8.out.other ⟨b, 5, none⟩ (by show b ≠ w1.heap.size; omega) _).cell 0 _ rfl
  clear hK K
  try simp only [Act.put, sqp]
  refine wpAnyH_done (by kernel_rfl) ?_ _
  have kO : Blk (v8.setCell ⟨b, 5, none⟩ (.slice za zl.length zc)) (b) #[.bool true, .pointer (some ⟨rb, 0, none⟩), .string ⟨#[]⟩, .slice m.a m.l.length m.c, .slice xa xl.length xc, .slice za zl.length zc, .bool false, .slice g.a g.l.length g.c] 54 := (KO8.out.set 5 _)
  have kP : Blk (v8.setCell ⟨b, 5, none⟩ (.slice za zl.length zc)) (w1.heap.size) #[.slice a2 sl.length c2] 69 := (KP8.out.other ⟨b, 5, none⟩ (by show b ≠ w1.heap.size; omega) _)
  have kQ : Blk (v8.setCell ⟨b, 5, none⟩ (.slice za zl.length zc)) (w3.heap.size) #[.slice ra rl.length rc] 69 := (KQ8.out.other ⟨b, 5, none⟩ (by show b ≠ w3.heap.size; omega) _)
  have ap : Apart [b] v8 (v8.setCell ⟨b, 5, none⟩ (.slice za zl.length zc)) := (Apart.refl [b] v8).setCell (p := ⟨b, 5, none⟩) (.inl (by simp)) _
  have rS := RS8.out.apart ap
  have rX := RX8.out.apart ap
  have rE := RE8.out.apart ap
  have rQ := RQ8.out.apart ap
  have rN := RopeW.apart RN8.out KO8.out rfl ap
  have rZ := RZ8.out.apart ap
  have hB := ((HB8.out.setCell (p := ⟨b, 5, none⟩) (by simp) _) : Apart [b] w (v8.setCell ⟨b, 5, none⟩ (.slice za zl.length zc)))
  have hz : (v8.setCell ⟨b, 5, none⟩ (.slice za zl.length zc)).heap.size = v8.heap.size := by simp
  obtain ⟨v9, hv9⟩ : ∃ V, (v8.setCell ⟨b, 5, none⟩ (.slice za zl.length zc)) = V := ⟨_, rfl⟩
  rw [hv9] at kO kP kQ rS rX rE rQ rN rZ hB hz
  rw [hv9]
  have KO9 := hid kO
  have KP9 := hid kP
  have KQ9 := hid kQ
  have RS9 := hid rS
  have RX9 := hid rX
  have RE9 := hid rE
  have RQ9 := hid rQ
  have RN9 := hid rN
  have RZ9 := hid rZ
  have HB9 := hid hB
  have HG9 := hid (Nat.le_trans HG8.out (Nat.le_of_eq hz.symm))
  clear kO kP kQ rS rX rE rQ rN rZ hB hz ap KO8 KP8 KQ8 RS8 RX8 RE8 RQ8 RN8 RZ8 HB8 HG8
  obtain ⟨zO9_0, zO9_1, zO9_2, zO9_3, zO9_4, zO9_5, zO9_6, zO9_7, fO9_0, fO9_1, fO9_2, fO9_3, fO9_4, fO9_5, fO9_6, fO9_7⟩ := KO9.out.all8
  obtain ⟨zP9_0, fP9_0⟩ := KP9.out.all1
  obtain ⟨zQ9_0, fQ9_0⟩ := KQ9.out.all1
  have csh := ed_show (made := true) (r := some ⟨rb, 0, none⟩) (t := ⟨#[]⟩) (m := m) (u := ⟨xa, xl, xc⟩) (ro := ⟨za, zl, zc⟩) (o := false) (g := g) KO9.out RS9.out.m HML.out HMC.out (some ⟨rb', 0, none⟩) ⟨ra, rl, rc⟩ RQ9.out (by show rl.length ≤ 100000; omega) HEZ.out HEP.out HMS.out
  have CSH := hid csh
  clear csh
  go_wp2_with fail
  refine (CSH.out).mono ?_; rintro e wZ ⟨rfl, ⟨ma, ml, mc⟩, hml3, hmc3, hk3, hkm3, ha⟩
  clear zO7_0 zO7_1 zO7_2 zO7_3 zO7_4 zO7_5 zO7_6 zO7_7 fO7_0 fO7_1 fO7_2 fO7_3 fO7_4 fO7_5 fO7_6 fO7_7 zP7_0 fP7_0 zQ7_0 fQ7_0 hv8 zO8_0 zO8_1 zO8_2 zO8_3 zO8_4 zO8_5 zO8_6 zO8_7 fO8_0 fO8_1 fO8_2 fO8_3 fO8_4 fO8_5 fO8_6 fO8_7 zP8_0 fP8_0 zQ8_0 fQ8_0 hv9 zO9_0 zO9_1 zO9_2 zO9_3 zO9_4 zO9_5 zO9_6 zO9_7 fO9_0 fO9_1 fO9_2 fO9_3 fO9_4 fO9_5 fO9_6 fO9_7 zP9_0 fP9_0 zQ9_0 fQ9_0
  have KO10 := hid (hk3)
  have KP10 := hid (KP9.out.apart ha (by simp only [List.mem_singleton]; omega))
  have KQ10 := hid (KQ9.out.apart ha (by simp only [List.mem_singleton]; omega))
  have RS10 := hid (RS9.out.apart (ha.more (by simp)))
  have RX10 := hid (RX9.out.apart (ha.more (by simp)))
  have RE10 := hid (RE9.out.apart (ha.more (by simp)))
  have RQ10 := hid (RQ9.out.apart (ha.more (by simp)))
  have RN10 := hid (RopeW.apart RN9.out KO9.out rfl ha)
  have RZ10 := hid (RZ9.out.apart (ha.more (by simp)))
  have HB10 := hid (HB9.out.trans ha (by simp))
  have HG10 := hid (Nat.le_trans HG9.out ha.size)
  have HM3 := hid (And.intro hml3 hmc3)
  have RM10 := hid (hkm3)
  clear ha hml3 hmc3 hk3 hkm3 KO9 KP9 KQ9 RS9 RX9 RE9 RQ9 RN9 RZ9 HB9 HG9
  obtain ⟨zO10_0, zO10_1, zO10_2, zO10_3, zO10_4, zO10_5, zO10_6, zO10_7, fO10_0, fO10_1, fO10_2, fO10_3, fO10_4, fO10_5, fO10_6, fO10_7⟩ := KO10.out.all8
  obtain ⟨zP10_0, fP10_0⟩ := KP10.out.all1
  obtain ⟨zQ10_0, fQ10_0⟩ := KQ10.out.all1
  go_wp2
  go_ret
  have h3 : ml = shfL m.l rl := HM3.out.1
  have h4 : lsP xl = _ := HXL.out
  have h5 : lsP zl = _ := HZL.out
  refine ⟨⟨t', ⟨ma, ml, mc⟩, ⟨xa, xl, xc⟩, ⟨za, zl, zc⟩, false, g⟩, rb', p', L', rfl, ⟨KO10.out, RN10.out, ⟨RM10.out, RX10.out, RZ10.out, RS10.out.g⟩, HM3.out.2.1, HM3.out.2.2, ?_⟩, ?_, HB10.out⟩
  · show InvS (⟨t', ml, lsP xl, lsP zl, false, g.l⟩ : StaD)
    rw [h3, h4, h5]
    exact HI.out
  · show (⟨t', ml, lsP xl, lsP zl, false, g.l⟩ : StaD) = _
    rw [h3, h4, h5]
set_option maxRecDepth 100000 in
set_option maxHeartbeats 800000 in
theorem ed_turn_redo_open {w : World} {b : Nat} {t : ByteArray} {m : KPc} {u ro : SPc} {g : EPc} {rb : Nat} {p : Option Addr} {L : List ByteArray} (h : IsEd w b ⟨t, m, u, ro, true, g⟩ rb p L) : Calls Tryz.prog 107 #[.pointer (some ⟨b, 0, none⟩), .pointer (some ⟨b, 5, none⟩), .pointer (some ⟨b, 4, none⟩), .func (.func 108) #[] #[]] w (RetEd w b ((Sta.d ⟨t, m, u, ro, true, g⟩), 11)) := by
  have hbl : b < w.heap.size := h.lt
  have KO0 := hid (show Blk w b #[.bool true, .pointer (some ⟨rb, 0, none⟩), .string ⟨#[]⟩, .slice m.a m.l.length m.c, .slice u.a u.l.length u.c, .slice ro.a ro.l.length ro.c, .bool true, .slice g.a g.l.length g.c] 54 from h.blk)
  have RS0 := hid (h.rows)
  have HB0 := hid ((Apart.refl [b] w))
  have HW0 := hid (Below.refl w.heap.size w)
  have HG0 := hid (Nat.le_refl w.heap.size)
  have hlt2 : ∀ W : World, w.heap.size ≤ W.heap.size → ∀ i ∈ [b], i < W.heap.size := fun W h i hi => by rw [List.mem_singleton.1 hi]; omega
  have HLT := hid hlt2; have H := hid h
  clear hlt2
  obtain ⟨zO0_0, zO0_1, zO0_2, zO0_3, zO0_4, zO0_5, zO0_6, zO0_7, fO0_0, fO0_1, fO0_2, fO0_3, fO0_4, fO0_5, fO0_6, fO0_7⟩ := KO0.out.all8
  clear h
  go_enter Tryz.func107, Tryz.ntmps107
  go_wp2
  go_ret
  exact ⟨⟨t, m, u, ro, true, g⟩, rb, p, L, rfl, ⟨KO0.out, H.out.rope.apart H.out.blk rfl HB0.out, RS0.out, H.out.ml, H.out.mc, H.out.inv⟩, rfl, HB0.out⟩
set_option maxRecDepth 100000 in
set_option maxHeartbeats 800000 in
theorem ed_turn_redo_none {w : World} {b : Nat} {t : ByteArray} {m : KPc} {u ro : SPc} {g : EPc} {rb : Nat} {p : Option Addr} {L : List ByteArray} (h : IsEd w b ⟨t, m, u, ro, false, g⟩ rb p L) (h0 : ro.l.length = 0) : Calls Tryz.prog 107 #[.pointer (some ⟨b, 0, none⟩), .pointer (some ⟨b, 5, none⟩), .pointer (some ⟨b, 4, none⟩), .func (.func 108) #[] #[]] w (RetEd w b ((Sta.d ⟨t, m, u, ro, false, g⟩), 10)) := by
  have hbl : b < w.heap.size := h.lt
  have KO0 := hid (show Blk w b #[.bool true, .pointer (some ⟨rb, 0, none⟩), .string ⟨#[]⟩, .slice m.a m.l.length m.c, .slice u.a u.l.length u.c, .slice ro.a ro.l.length ro.c, .bool false, .slice g.a g.l.length g.c] 54 from h.blk)
  have RS0 := hid (h.rows)
  have HB0 := hid ((Apart.refl [b] w))
  have HW0 := hid (Below.refl w.heap.size w)
  have HG0 := hid (Nat.le_refl w.heap.size)
  have hlt2 : ∀ W : World, w.heap.size ≤ W.heap.size → ∀ i ∈ [b], i < W.heap.size := fun W h i hi => by rw [List.mem_singleton.1 hi]; omega
  have HLT := hid hlt2; have H := hid h
  clear hlt2
  obtain ⟨zO0_0, zO0_1, zO0_2, zO0_3, zO0_4, zO0_5, zO0_6, zO0_7, fO0_0, fO0_1, fO0_2, fO0_3, fO0_4, fO0_5, fO0_6, fO0_7⟩ := KO0.out.all8
  have c0 : ro.l.length = 0 := h0
  have cp := fun W => stk_pop_none ro.a ro.c W
  have CPP := hid (show ∀ W, Calls Tryz.prog 138 #[.slice ro.a ro.l.length ro.c] W _ from fun W => by rw [h0]; exact cp W)
  clear cp h c0 h0
  go_enter Tryz.func107, Tryz.ntmps107
  go_wp2_with fail
  refine (CPP.out _).mono ?_; rintro e w1 ⟨rfl, hb⟩
  clear zO0_0 zO0_1 zO0_2 zO0_3 zO0_4 zO0_5 zO0_6 zO0_7 fO0_0 fO0_1 fO0_2 fO0_3 fO0_4 fO0_5 fO0_6 fO0_7
  have KO1 := hid (KO0.out.onto hb)
  have RS1 := hid (RS0.out.later hb)
  have HB1 := hid (HB0.out.trans (S' := []) (.of_below hb) (by simp))
  have HG1 := hid (Nat.le_trans HG0.out hb.size)
  have HW1 := hid (HW0.out.trans (hb.mono HW0.out.size))
  clear hb CPP KO0 RS0 HB0 HG0
  obtain ⟨zO1_0, zO1_1, zO1_2, zO1_3, zO1_4, zO1_5, zO1_6, zO1_7, fO1_0, fO1_1, fO1_2, fO1_3, fO1_4, fO1_5, fO1_6, fO1_7⟩ := KO1.out.all8
  go_wp2
  go_ret
  have hbw := HW1.out.alloc HW1.out.size (.cells #[.slice none 0 0] 69)
  exact ⟨⟨t, m, u, ro, false, g⟩, rb, p, L, rfl, H.out.later hbw, rfl, .of_below hbw⟩
set_option maxRecDepth 100000 in
set_option maxHeartbeats 1600000 in
theorem ed_turn_redo_yes {w : World} {b : Nat} {t : ByteArray} {m : KPc} {u ro : SPc} {g : EPc} {rb : Nat} {p : Option Addr} {L : List ByteArray} (h : IsEd w b ⟨t, m, u, ro, false, g⟩ rb p L) (k : Nat) (hn : ro.l.length = k + 1) : Calls Tryz.prog 107 #[.pointer (some ⟨b, 0, none⟩), .pointer (some ⟨b, 5, none⟩), .pointer (some ⟨b, 4, none⟩), .func (.func 108) #[] #[]] w (RetEd w b (redoD (Sta.d ⟨t, m, u, ro, false, g⟩))) := by
  have hbl : b < w.heap.size := h.lt
  have hk' : (lsP ro.l).length = k + 1 := by rw [lsP_len]; exact hn
  have hst : (lsP ro.l)[k]! = (ro.l[k]!).l := lsP_get ro.l k (by omega)
  obtain ⟨t', hrun, hv, hz⟩ := redo_run h.inv hk'
  have hyes := redoD_yes (s := Sta.d ⟨t, m, u, ro, false, g⟩) rfl hk' hrun
  have hie := inv_redo h.inv
  have hlen := (h.inv.rl.2 _ (get_mem (L := lsP ro.l) (k := k) (by omega))).2
  have hok := h.inv.re _ (get_mem (L := lsP ro.l) (k := k) (by omega))
  have hz9 : ∀ x ∈ ro.l, x.l.length ≤ 1000000 := lsP_all fun y hy => Nat.le_trans (h.inv.rl.2 y hy).2 (by decide)
  have hk9 : k ≤ 900 := by have h2 : (lsP ro.l).length ≤ 16 := h.inv.rl.1; omega
  have htl : u.l.length ≤ 900 ∧ ∀ x ∈ u.l, x.l.length ≤ 1000000 := by
    have h2 : (lsP u.l).length ≤ 16 := h.inv.ul.1
    rw [lsP_len] at h2
    exact ⟨by omega, lsP_all fun y hy => Nat.le_trans (h.inv.ul.2 y hy).2 (by decide)⟩
  replace hyes : redoD (Sta.d ⟨t, m, u, ro, false, g⟩) = ((⟨t', shfL m.l (lsP ro.l)[k]!, pushL (lsP u.l) (lsP ro.l)[k]!, (lsP ro.l).take k, false, g.l⟩ : StaD), 0) := hyes
  rw [hyes] at hie ⊢
  replace hrun : runE t ((lsP ro.l)[k]!) = (t', 0) := hrun
  replace hok : ∀ x ∈ (lsP ro.l)[k]!, okE5 x = true := hok
  rw [hst] at hrun hlen hok hie ⊢
  obtain ⟨sl, hsl⟩ : ∃ sl, (ro.l[k]!).l = sl := ⟨_, rfl⟩
  rw [hsl] at hrun hlen hok hie ⊢
  have hms := h.inv.shown hrun
  have hez := h.inv.edz hok
  have hep := run_in (t := t) h.inv.z hrun
  have hof : ofE t' = 0 := ofE_yes hv hz
  have htz : t.size ≤ 4096 := h.inv.z
  have hml : m.l.length ≤ 1000000 := Nat.le_trans h.inv.ml (by decide)
  have hmc : m.l.length ≤ m.c ∧ m.c ≤ maxLen := ⟨h.ml, h.mc⟩
  have HRUN := hid hrun; have HMS := hid hms; have HEZ := hid hez; have HEP := hid hep; have HOF := hid hof; have HML := hid hml; have HMC := hid hmc; have HI := hid hie; have HTL := hid htl; have HSL := hid hsl
  clear hrun hms hez hep hof hml hmc hie htl hyes hok hst hk' hv
  have KO0 := hid (show Blk w b #[.bool true, .pointer (some ⟨rb, 0, none⟩), .string ⟨#[]⟩, .slice m.a m.l.length m.c, .slice u.a u.l.length u.c, .slice ro.a ro.l.length ro.c, .bool false, .slice g.a g.l.length g.c] 54 from h.blk)
  have RS0 := hid (h.rows)
  have HB0 := hid ((Apart.refl [b] w))
  have HW0 := hid (Below.refl w.heap.size w)
  have HG0 := hid (Nat.le_refl w.heap.size)
  have hlt2 : ∀ W : World, w.heap.size ≤ W.heap.size → ∀ i ∈ [b], i < W.heap.size := fun W h i hi => by rw [List.mem_singleton.1 hi]; omega
  have HLT := hid hlt2; have H := hid h
  clear hlt2
  obtain ⟨zO0_0, zO0_1, zO0_2, zO0_3, zO0_4, zO0_5, zO0_6, zO0_7, fO0_0, fO0_1, fO0_2, fO0_3, fO0_4, fO0_5, fO0_6, fO0_7⟩ := KO0.out.all8
  have cp := fun W (hW : Below w.heap.size w W) => (stk_pop_some ro.a ro.l ro.c k W (h.rows.r.later hW).in hn hk9 hz9).mono fun e w' hh => ret_pop_off (S := [b]) hh (HLT.out W hW.size)
  rw [← hn] at cp
  simp only [HSL.out] at cp
  clear hn hk9 hz9
  have ct := fun W (hW : Below w.heap.size w W) => ro_text (h.rope.later hW)
  have CT := hid ct; have CPP := hid cp
  clear cp ct h
  go_enter Tryz.func107, Tryz.ntmps107
  go_wp2_with fail
  refine (CPP.out _ (Below.refl _ _)).mono ?_; rintro e w1 ⟨⟨xa, xl, xc⟩, a2, c2, rfl, hxl, hsx, he2, hb⟩
  clear zO0_0 zO0_1 zO0_2 zO0_3 zO0_4 zO0_5 zO0_6 zO0_7 fO0_0 fO0_1 fO0_2 fO0_3 fO0_4 fO0_5 fO0_6 fO0_7
  have KO1 := hid (KO0.out.onto hb)
  have RS1 := hid (RS0.out.later hb)
  have HB1 := hid (HB0.out.trans (S' := []) (.of_below hb) (by simp))
  have HG1 := hid (Nat.le_trans HG0.out hb.size)
  have HW1 := hid (HW0.out.trans (hb.mono HW0.out.size))
  have HXL := hid hxl
  have RX1 := hid (hsx)
  have RE1 := hid (he2)
  clear hb hxl hsx he2 CPP KO0 RS0 HB0 HG0
  obtain ⟨zO1_0, zO1_1, zO1_2, zO1_3, zO1_4, zO1_5, zO1_6, zO1_7, fO1_0, fO1_1, fO1_2, fO1_3, fO1_4, fO1_5, fO1_6, fO1_7⟩ := KO1.out.all8
  have hxa1 : w.heap.size ≤ w1.heap.size := HG1.out
  obtain ⟨wA1, hwA1, kA, hbA, hzA⟩ := box1 w1 #[.slice a2 sl.length c2] 69
  have KO2 := hid (KO1.out.onto hbA)
  have RS2 := hid (RS1.out.later hbA)
  have RX2 := hid (RX1.out.later hbA)
  have RE2 := hid (RE1.out.later hbA)
  have HB2 := hid (HB1.out.trans (S' := []) (.of_below hbA) (by simp))
  have HG2 := hid (Nat.le_trans HG1.out hbA.size)
  have HW2 := hid (HW1.out.trans (hbA.mono HW1.out.size))
  have KP2 := hid kA
  have hzz1 : w1.heap.size < wA1.heap.size := by omega
  have HZP := hid hzz1
  clear kA hbA hzA hzz1 KO1 RS1 RX1 RE1 HB1 HG1
  obtain ⟨zO2_0, zO2_1, zO2_2, zO2_3, zO2_4, zO2_5, zO2_6, zO2_7, fO2_0, fO2_1, fO2_2, fO2_3, fO2_4, fO2_5, fO2_6, fO2_7⟩ := KO2.out.all8
  obtain ⟨zP2_0, fP2_0⟩ := KP2.out.all1
  have CI := hid (ed_id a2 sl.length c2 wA1)
  go_wp2_with fail
  refine (CI.out).mono ?_; rintro e w3 ⟨rfl, hb⟩
  clear zO1_0 zO1_1 zO1_2 zO1_3 zO1_4 zO1_5 zO1_6 zO1_7 fO1_0 fO1_1 fO1_2 fO1_3 fO1_4 fO1_5 fO1_6 fO1_7 hwA1 zO2_0 zO2_1 zO2_2 zO2_3 zO2_4 zO2_5 zO2_6 zO2_7 fO2_0 fO2_1 fO2_2 fO2_3 fO2_4 fO2_5 fO2_6 fO2_7 zP2_0 fP2_0
  have KO3 := hid (KO2.out.onto hb)
  have KP3 := hid (KP2.out.onto hb)
  have RS3 := hid (RS2.out.later hb)
  have RX3 := hid (RX2.out.later hb)
  have RE3 := hid (RE2.out.later hb)
  have HB3 := hid (HB2.out.trans (S' := []) (.of_below hb) (by simp))
  have HG3 := hid (Nat.le_trans HG2.out hb.size)
  have HW3 := hid (HW2.out.trans (hb.mono HW2.out.size))
  clear hb CI KO2 KP2 RS2 RX2 RE2 HB2 HG2
  obtain ⟨zO3_0, zO3_1, zO3_2, zO3_3, zO3_4, zO3_5, zO3_6, zO3_7, fO3_0, fO3_1, fO3_2, fO3_3, fO3_4, fO3_5, fO3_6, fO3_7⟩ := KO3.out.all8
  obtain ⟨zP3_0, fP3_0⟩ := KP3.out.all1
  have hxa3 : w.heap.size ≤ w3.heap.size := HG3.out
  obtain ⟨wA3, hwA3, kA, hbA, hzA⟩ := box1 w3 #[.slice a2 sl.length c2] 69
  have KO4 := hid (KO3.out.onto hbA)
  have KP4 := hid (KP3.out.onto hbA)
  have RS4 := hid (RS3.out.later hbA)
  have RX4 := hid (RX3.out.later hbA)
  have RE4 := hid (RE3.out.later hbA)
  have HB4 := hid (HB3.out.trans (S' := []) (.of_below hbA) (by simp))
  have HG4 := hid (Nat.le_trans HG3.out hbA.size)
  have HW4 := hid (HW3.out.trans (hbA.mono HW3.out.size))
  have KQ4 := hid kA
  have hzz3 : w3.heap.size < wA3.heap.size := by omega
  have HZQ := hid hzz3
  clear kA hbA hzA hzz3 KO3 KP3 RS3 RX3 RE3 HB3 HG3
  obtain ⟨zO4_0, zO4_1, zO4_2, zO4_3, zO4_4, zO4_5, zO4_6, zO4_7, fO4_0, fO4_1, fO4_2, fO4_3, fO4_4, fO4_5, fO4_6, fO4_7⟩ := KO4.out.all8
  obtain ⟨zP4_0, fP4_0⟩ := KP4.out.all1
  obtain ⟨zQ4_0, fQ4_0⟩ := KQ4.out.all1
  have cr := fun W (hW : Below wA3.heap.size wA3 W) => srun_any t a2 sl c2 W (RE4.out.later hW).in.row (by omega) (by omega) HEZ.out
  rw [HRUN.out] at cr
  have CR := hid cr
  clear cr
  have hfs : ∀ W, Below wA3.heap.size wA3 W → W.cell? ⟨b, 1, none⟩ = some (.pointer (some ⟨rb, 0, none⟩)) ∧ W.cell? ⟨w3.heap.size, 0, none⟩ = some (.slice a2 sl.length c2) := fun W h => ⟨(KO4.out.onto h).cell 1 _ rfl, (KQ4.out.onto h).cell 0 _ rfl⟩
  have FS := hid hfs
  clear hfs
  go_wp2_with fail
  clear zO3_0 zO3_1 zO3_2 zO3_3 zO3_4 zO3_5 zO3_6 zO3_7 fO3_0 fO3_1 fO3_2 fO3_3 fO3_4 fO3_5 fO3_6 fO3_7 zP3_0 fP3_0 hwA3 zO4_0 zO4_1 zO4_2 zO4_3 zO4_4 zO4_5 zO4_6 zO4_7 fO4_0 fO4_1 fO4_2 fO4_3 fO4_4 fO4_5 fO4_6 fO4_7 zP4_0 fP4_0 zQ4_0 fQ4_0
  refine wp_region_held_drew (S := (fun W : World => W.cell? ⟨b, 1, none⟩ = some (.pointer (some ⟨rb, 0, none⟩)) ∧ W.cell? ⟨w3.heap.size, 0, none⟩ = some (.slice a2 sl.length c2))) (by kernel_rfl) (FS.out _ (Below.refl _ _).drew) (fun hHeld => ?_)
  refine sqt 0 ?_
  try simp only [Act.put, sqp]
  refine sqt 1 ?_
  try simp only [Act.put, sqp]
  refine sqt 2 ?_
  try simp only [Act.put, sqp]
  refine sqt 3 ?_
  try simp only [Act.put, sqp]
  refine sqt 5 ?_
  try simp only [Act.put, sqp]
  refine wpAnyH_ready (rs := [4]) (by kernel_rfl) (by simp) ?_
  refine AllReadyH.cons (by simp only [sqg]; rfl) (fun K hK => ?_) AllReadyH.nil
  go_simp
  (go_at_call 19; refine (CT.out _ HW4.out.drew).mono ?_; rintro e y1 ⟨rfl, hb1⟩; have hb1' : Below wA3.heap.size wA3 y1 := (Below.refl _ _).drew.trans hb1)
  try go_wp2_with fail
  refine hK.out _ _ ?_ (fun hHeld => ?_)
  · exact FS.out _ hb1'
  clear hK K
  try simp only [Act.put, sqp]
  refine wpAnyH_ready (rs := [6]) (by kernel_rfl) (by simp) ?_
  refine AllReadyH.cons (by simp only [sqg]; rfl) (fun K hK => ?_) AllReadyH.nil
  go_simp
  (go_at_call 90; refine (CR.out _ hb1').mono ?_; rintro e y2 ⟨rfl, hb2⟩; have hb2' : Below wA3.heap.size wA3 y2 := hb1'.trans (hb2.mono hb1'.size))
  try go_wp2_with fail
  refine hK.out _ _ ?_ (fun hHeld => ?_)
  · exact FS.out _ hb2'
  clear hK K
  try simp only [Act.put, sqp]
  refine sqt 7 ?_
  try simp only [Act.put, sqp]
  refine sqt 8 ?_
  try simp only [Act.put, sqp]
  refine sqt 9 ?_
  try simp only [Act.put, sqp]
  refine sqt 10 ?_
  try simp only [Act.put, sqp]
  refine sqt 11 ?_
  try simp only [Act.put, sqp]
  refine wpAnyH_done (by kernel_rfl) ?_ _
  have KO5 := hid (KO4.out.onto hb2')
  have KP5 := hid (KP4.out.onto hb2')
  have KQ5 := hid (KQ4.out.onto hb2')
  have RS5 := hid (RS4.out.later hb2')
  have RX5 := hid (RX4.out.later hb2')
  have RE5 := hid (RE4.out.later hb2')
  have HB5 := hid (HB4.out.trans (S' := []) (.of_below hb2') (by simp))
  have HG5 := hid (Nat.le_trans HG4.out hb2'.size)
  have HW5 := hid (HW4.out.trans (hb2'.mono HW4.out.size))
  clear hb1 hb1' hb2 hb2' CT CR FS KO4 KP4 KQ4 RS4 RX4 RE4 HB4 HG4
  obtain ⟨zO5_0, zO5_1, zO5_2, zO5_3, zO5_4, zO5_5, zO5_6, zO5_7, fO5_0, fO5_1, fO5_2, fO5_3, fO5_4, fO5_5, fO5_6, fO5_7⟩ := KO5.out.all8
  obtain ⟨zP5_0, fP5_0⟩ := KP5.out.all1
  obtain ⟨zQ5_0, fQ5_0⟩ := KQ5.out.all1
  have co := (ro_of t' (by unfold maxLen; omega) y2).mono fun e w' h => h.yes HOF.out
  have CO := hid co
  clear co
  go_wp2_with fail
  refine (CO.out).mono ?_; rintro e w6 ⟨rb', p', L', rfl, hR, hb⟩
  clear zO5_0 zO5_1 zO5_2 zO5_3 zO5_4 zO5_5 zO5_6 zO5_7 fO5_0 fO5_1 fO5_2 fO5_3 fO5_4 fO5_5 fO5_6 fO5_7 zP5_0 fP5_0 zQ5_0 fQ5_0
  have KO6 := hid (KO5.out.onto hb)
  have KP6 := hid (KP5.out.onto hb)
  have KQ6 := hid (KQ5.out.onto hb)
  have RS6 := hid (RS5.out.later hb)
  have RX6 := hid (RX5.out.later hb)
  have RE6 := hid (RE5.out.later hb)
  have HB6 := hid (HB5.out.trans (S' := []) (.of_below hb) (by simp))
  have HG6 := hid (Nat.le_trans HG5.out hb.size)
  have HW6 := hid (HW5.out.trans (hb.mono HW5.out.size))
  have RN6 := hid (hR)
  clear hb hR CO KO5 KP5 KQ5 RS5 RX5 RE5 HB5 HG5
  obtain ⟨zO6_0, zO6_1, zO6_2, zO6_3, zO6_4, zO6_5, zO6_6, zO6_7, fO6_0, fO6_1, fO6_2, fO6_3, fO6_4, fO6_5, fO6_6, fO6_7⟩ := KO6.out.all8
  obtain ⟨zP6_0, fP6_0⟩ := KP6.out.all1
  obtain ⟨zQ6_0, fQ6_0⟩ := KQ6.out.all1
  have cq := fun W (hW : Below w6.heap.size w6 W) => (stk_push_any u.a u.l u.c ⟨a2, sl, c2⟩ W (RS6.out.u.later hW).in (RE6.out.later hW).in HTL.out.1 HTL.out.2 (by show sl.length ≤ 1000000; omega)).mono fun e w' hh => ret_stk_off (S := [b]) hh (HLT.out W (Nat.le_trans HG6.out hW.size))
  have CQ := hid cq
  clear cq
  have q5 : w6.drew.cell? ⟨b, 4, none⟩ = some (.slice u.a u.l.length u.c) := zO6_4
  go_wp2_with fail
  clear zO6_0 zO6_1 zO6_2 zO6_3 zO6_4 zO6_5 zO6_6 zO6_7 fO6_0 fO6_1 fO6_2 fO6_3 fO6_4 fO6_5 fO6_6 fO6_7 zP6_0 fP6_0 zQ6_0 fQ6_0
  refine wp_region_held_drew (S := (fun W : World => W.cell? ⟨w1.heap.size, 0, none⟩ = some (.slice a2 sl.length c2))) (by kernel_rfl) (KP6.out.cell 0 _ rfl) (fun hHeld => ?_)
  refine sqt 0 ?_
  try simp only [Act.put, sqp]
  refine sqt 1 ?_
  try simp only [Act.put, sqp]
  refine sqt 2 ?_
  try simp only [Act.put, sqp]
  refine sqt 3 ?_
  try simp only [Act.put, sqp]
  refine sqt 4 ?_
  try simp only [Act.put, sqp]
  refine sqt 6 ?_
  try simp only [Act.put, sqp]
  refine wpAnyH_ready (rs := [5]) (by kernel_rfl) (by simp) ?_
  refine AllReadyH.cons (by simp only [sqg]; rfl) (fun K hK => ?_) AllReadyH.nil
  go_simp
  skip
  try go_wp2_with fail
  refine hK.out _ _ ?_ (fun hHeld => ?_)
  · exact hHeld
  clear hK K
  try simp only [Act.put, sqp]
  refine wpAnyH_ready (rs := [7]) (by kernel_rfl) (by simp) ?_
  refine AllReadyH.cons (by simp only [sqg]; rfl) (fun K hK => ?_) AllReadyH.nil
  go_simp
  (go_at_call 139; refine (CQ.out _ (Below.refl _ _).drew).mono ?_; rintro e y3 ⟨⟨za, zl, zc⟩, rfl, hzl, hsz, hb3⟩; have hb3' : Below w6.heap.size w6 y3 := (Below.refl _ _).drew.trans hb3)
  try go_wp2_with fail
  refine hK.out _ _ ?_ (fun hHeld => ?_)
  · exact (KP6.out.onto hb3').cell 0 _ rfl
  clear hK K
  try simp only [Act.put, sqp]
  clear q5
  have KO7 := hid (KO6.out.onto hb3')
  have KP7 := hid (KP6.out.onto hb3')
  have KQ7 := hid (KQ6.out.onto hb3')
  have RS7 := hid (RS6.out.later hb3')
  have RX7 := hid (RX6.out.later hb3')
  have RE7 := hid (RE6.out.later hb3')
  have RN7 := hid (RN6.out.later hb3')
  have HB7 := hid (HB6.out.trans (S' := []) (.of_below hb3') (by simp))
  have HG7 := hid (Nat.le_trans HG6.out hb3'.size)
  have HW7 := hid (HW6.out.trans (hb3'.mono HW6.out.size))
  have HZL := hid hzl; have RZ7 := hid hsz
  clear hzl hsz hb3 hb3' CQ KO6 KP6 KQ6 RS6 RX6 RE6 RN6 HB6 HG6
  obtain ⟨zO7_0, zO7_1, zO7_2, zO7_3, zO7_4, zO7_5, zO7_6, zO7_7, fO7_0, fO7_1, fO7_2, fO7_3, fO7_4, fO7_5, fO7_6, fO7_7⟩ := KO7.out.all8
  obtain ⟨zP7_0, fP7_0⟩ := KP7.out.all1
  obtain ⟨zQ7_0, fQ7_0⟩ := KQ7.out.all1
  refine sqt 8 ?_
  try simp only [Act.put, sqp]
  refine wpAnyH_ready (rs := [9]) (by kernel_rfl) (by simp) ?_
  refine AllReadyH.cons (by simp only [sqg]; rfl) (fun K hK => ?_) AllReadyH.nil
  go_simp
  skip
  try go_wp2_with fail
  refine hK.out _ _ ?_ (fun hHeld => ?_)
  · exact (KP7.out.other ⟨b, 5, none⟩ (by show b ≠ w1.heap.size; omega) _).cell 0 _ rfl
  clear hK K
  try simp only [Act.put, sqp]
  refine sqt 10 ?_
  try simp only [Act.put, sqp]
  have kO : Blk (y3.setCell ⟨b, 5, none⟩ (.slice xa xl.length xc)) (b) #[.bool true, .pointer (some ⟨rb, 0, none⟩), .string ⟨#[]⟩, .slice m.a m.l.length m.c, .slice u.a u.l.length u.c, .slice xa xl.length xc, .bool false, .slice g.a g.l.length g.c] 54 := (KO7.out.set 5 _)
  have kP : Blk (y3.setCell ⟨b, 5, none⟩ (.slice xa xl.length xc)) (w1.heap.size) #[.slice a2 sl.length c2] 69 := (KP7.out.other ⟨b, 5, none⟩ (by show b ≠ w1.heap.size; omega) _)
  have kQ : Blk (y3.setCell ⟨b, 5, none⟩ (.slice xa xl.length xc)) (w3.heap.size) #[.slice a2 sl.length c2] 69 := (KQ7.out.other ⟨b, 5, none⟩ (by show b ≠ w3.heap.size; omega) _)
  have ap : Apart [b] y3 (y3.setCell ⟨b, 5, none⟩ (.slice xa xl.length xc)) := (Apart.refl [b] y3).setCell (p := ⟨b, 5, none⟩) (.inl (by simp)) _
  have rS := RS7.out.apart ap
  have rX := RX7.out.apart ap
  have rE := RE7.out.apart ap
  have rN := RopeW.apart RN7.out KO7.out rfl ap
  have rZ := RZ7.out.apart ap
  have hB := ((HB7.out.setCell (p := ⟨b, 5, none⟩) (by simp) _) : Apart [b] w (y3.setCell ⟨b, 5, none⟩ (.slice xa xl.length xc)))
  have hz : (y3.setCell ⟨b, 5, none⟩ (.slice xa xl.length xc)).heap.size = y3.heap.size := by simp
  obtain ⟨v8, hv8⟩ : ∃ V, (y3.setCell ⟨b, 5, none⟩ (.slice xa xl.length xc)) = V := ⟨_, rfl⟩
  rw [hv8] at kO kP kQ rS rX rE rN rZ hB hz
  rw [hv8]
  have KO8 := hid kO
  have KP8 := hid kP
  have KQ8 := hid kQ
  have RS8 := hid rS
  have RX8 := hid rX
  have RE8 := hid rE
  have RN8 := hid rN
  have RZ8 := hid rZ
  have HB8 := hid hB
  have HG8 := hid (Nat.le_trans HG7.out (Nat.le_of_eq hz.symm))
  clear kO kP kQ rS rX rE rN rZ hB hz ap KO7 KP7 KQ7 RS7 RX7 RE7 RN7 RZ7 HB7 HG7
  obtain ⟨zO8_0, zO8_1, zO8_2, zO8_3, zO8_4, zO8_5, zO8_6, zO8_7, fO8_0, fO8_1, fO8_2, fO8_3, fO8_4, fO8_5, fO8_6, fO8_7⟩ := KO8.out.all8
  obtain ⟨zP8_0, fP8_0⟩ := KP8.out.all1
  obtain ⟨zQ8_0, fQ8_0⟩ := KQ8.out.all1
  refine wpAnyH_ready (rs := [11]) (by kernel_rfl) (by simp) ?_
  refine AllReadyH.cons (by simp only [sqg]; rfl) (fun K hK => ?_) AllReadyH.nil
  go_simp
  skip
  try go_wp2_with fail
  refine hK.out _ _ ?_ (fun hHeld => ?_)
  · exact (KP8.out.other ⟨b, 4, none⟩ (by show b ≠ w1.heap.size; omega) _).cell 0 _ rfl
  clear hK K
  try simp only [Act.put, sqp]
  refine wpAnyH_done (by kernel_rfl) ?_ _
  have kO : Blk (v8.setCell ⟨b, 4, none⟩ (.slice za zl.length zc)) (b) #[.bool true, .pointer (some ⟨rb, 0, none⟩), .string ⟨#[]⟩, .slice m.a m.l.length m.c, .slice za zl.length zc, .slice xa xl.length xc, .bool false, .slice g.a g.l.length g.c] 54 := (KO8.out.set 4 _)
  have kP : Blk (v8.setCell ⟨b, 4, none⟩ (.slice za zl.length zc)) (w1.heap.size) #[.slice a2 sl.length c2] 69 := (KP8.out.other ⟨b, 4, none⟩ (by show b ≠ w1.heap.size; omega) _)
  have kQ : Blk (v8.setCell ⟨b, 4, none⟩ (.slice za zl.length zc)) (w3.heap.size) #[.slice a2 sl.length c2] 69 := (KQ8.out.other ⟨b, 4, none⟩ (by show b ≠ w3.heap.size; omega) _)
  have ap : Apart [b] v8 (v8.setCell ⟨b, 4, none⟩ (.slice za zl.length zc)) := (Apart.refl [b] v8).setCell (p := ⟨b, 4, none⟩) (.inl (by simp)) _
  have rS := RS8.out.apart ap
  have rX := RX8.out.apart ap
  have rE := RE8.out.apart ap
  have rN := RopeW.apart RN8.out KO8.out rfl ap
  have rZ := RZ8.out.apart ap
  have hB := ((HB8.out.setCell (p := ⟨b, 4, none⟩) (by simp) _) : Apart [b] w (v8.setCell ⟨b, 4, none⟩ (.slice za zl.length zc)))
  have hz : (v8.setCell ⟨b, 4, none⟩ (.slice za zl.length zc)).heap.size = v8.heap.size := by simp
  obtain ⟨v9, hv9⟩ : ∃ V, (v8.setCell ⟨b, 4, none⟩ (.slice za zl.length zc)) = V := ⟨_, rfl⟩
  rw [hv9] at kO kP kQ rS rX rE rN rZ hB hz
  rw [hv9]
  have KO9 := hid kO
  have KP9 := hid kP
  have KQ9 := hid kQ
  have RS9 := hid rS
  have RX9 := hid rX
  have RE9 := hid rE
  have RN9 := hid rN
  have RZ9 := hid rZ
  have HB9 := hid hB
  have HG9 := hid (Nat.le_trans HG8.out (Nat.le_of_eq hz.symm))
  clear kO kP kQ rS rX rE rN rZ hB hz ap KO8 KP8 KQ8 RS8 RX8 RE8 RN8 RZ8 HB8 HG8
  obtain ⟨zO9_0, zO9_1, zO9_2, zO9_3, zO9_4, zO9_5, zO9_6, zO9_7, fO9_0, fO9_1, fO9_2, fO9_3, fO9_4, fO9_5, fO9_6, fO9_7⟩ := KO9.out.all8
  obtain ⟨zP9_0, fP9_0⟩ := KP9.out.all1
  obtain ⟨zQ9_0, fQ9_0⟩ := KQ9.out.all1
  have csh := ed_show (made := true) (r := some ⟨rb, 0, none⟩) (t := ⟨#[]⟩) (m := m) (u := ⟨za, zl, zc⟩) (ro := ⟨xa, xl, xc⟩) (o := false) (g := g) KO9.out RS9.out.m HML.out HMC.out (some ⟨rb', 0, none⟩) ⟨a2, sl, c2⟩ RE9.out (by show sl.length ≤ 100000; omega) HEZ.out HEP.out HMS.out
  have CSH := hid csh
  clear csh
  go_wp2_with fail
  refine (CSH.out).mono ?_; rintro e wZ ⟨rfl, ⟨ma, ml, mc⟩, hml3, hmc3, hk3, hkm3, ha⟩
  clear zO7_0 zO7_1 zO7_2 zO7_3 zO7_4 zO7_5 zO7_6 zO7_7 fO7_0 fO7_1 fO7_2 fO7_3 fO7_4 fO7_5 fO7_6 fO7_7 zP7_0 fP7_0 zQ7_0 fQ7_0 hv8 zO8_0 zO8_1 zO8_2 zO8_3 zO8_4 zO8_5 zO8_6 zO8_7 fO8_0 fO8_1 fO8_2 fO8_3 fO8_4 fO8_5 fO8_6 fO8_7 zP8_0 fP8_0 zQ8_0 fQ8_0 hv9 zO9_0 zO9_1 zO9_2 zO9_3 zO9_4 zO9_5 zO9_6 zO9_7 fO9_0 fO9_1 fO9_2 fO9_3 fO9_4 fO9_5 fO9_6 fO9_7 zP9_0 fP9_0 zQ9_0 fQ9_0
  have KO10 := hid (hk3)
  have KP10 := hid (KP9.out.apart ha (by simp only [List.mem_singleton]; omega))
  have KQ10 := hid (KQ9.out.apart ha (by simp only [List.mem_singleton]; omega))
  have RS10 := hid (RS9.out.apart (ha.more (by simp)))
  have RX10 := hid (RX9.out.apart (ha.more (by simp)))
  have RE10 := hid (RE9.out.apart (ha.more (by simp)))
  have RN10 := hid (RopeW.apart RN9.out KO9.out rfl ha)
  have RZ10 := hid (RZ9.out.apart (ha.more (by simp)))
  have HB10 := hid (HB9.out.trans ha (by simp))
  have HG10 := hid (Nat.le_trans HG9.out ha.size)
  have HM3 := hid (And.intro hml3 hmc3)
  have RM10 := hid (hkm3)
  clear ha hml3 hmc3 hk3 hkm3 KO9 KP9 KQ9 RS9 RX9 RE9 RN9 RZ9 HB9 HG9
  obtain ⟨zO10_0, zO10_1, zO10_2, zO10_3, zO10_4, zO10_5, zO10_6, zO10_7, fO10_0, fO10_1, fO10_2, fO10_3, fO10_4, fO10_5, fO10_6, fO10_7⟩ := KO10.out.all8
  obtain ⟨zP10_0, fP10_0⟩ := KP10.out.all1
  obtain ⟨zQ10_0, fQ10_0⟩ := KQ10.out.all1
  go_wp2
  go_ret
  have h3 : ml = shfL m.l sl := HM3.out.1
  have h4 : lsP xl = _ := HXL.out
  have h5 : lsP zl = _ := HZL.out
  refine ⟨⟨t', ⟨ma, ml, mc⟩, ⟨za, zl, zc⟩, ⟨xa, xl, xc⟩, false, g⟩, rb', p', L', rfl, ⟨KO10.out, RN10.out, ⟨RM10.out, RZ10.out, RX10.out, RS10.out.g⟩, HM3.out.2.1, HM3.out.2.2, ?_⟩, ?_, HB10.out⟩
  · show InvS (⟨t', ml, lsP zl, lsP xl, false, g.l⟩ : StaD)
    rw [h3, h4, h5]
    exact HI.out
  · show (⟨t', ml, lsP zl, lsP xl, false, g.l⟩ : StaD) = _
    rw [h3, h4, h5]
end Go.Proofs.YtfiobemeogaaiaaGreat
namespace Go.Proofs.YtfiobemeogaaiaaGreat
open Lib (hid)
open Go.RowKit
set_option linter.unusedVariables false
set_option linter.unusedSimpArgs false
theorem ed_turn_undo {w : World} {b : Nat} {s : Sta} {rb : Nat} {p : Option Addr} {L : List ByteArray} (h : IsEd w b s rb p L) : Calls Tryz.prog 107 #[.pointer (some ⟨b, 0, none⟩), .pointer (some ⟨b, 4, none⟩), .pointer (some ⟨b, 5, none⟩), .func (.func 88) #[] #[]] w (RetEd w b (undoD s.d)) := by
  obtain ⟨t, m, u, ro, so, g⟩ := s
  cases so with
  | true =>
    have e : undoD (Sta.d ⟨t, m, u, ro, true, g⟩) = (Sta.d ⟨t, m, u, ro, true, g⟩, 11) := by unfold undoD; exact if_pos rfl
    rw [e]
    exact ed_turn_undo_open h
  | false =>
    cases hn : u.l.length with
    | zero =>
      have e : undoD (Sta.d ⟨t, m, u, ro, false, g⟩) = (Sta.d ⟨t, m, u, ro, false, g⟩, 10) := by unfold undoD; exact (if_neg (fun h => by cases h)).trans (if_pos (show (lsP u.l).length = 0 by rw [lsP_len]; exact hn))
      rw [e]
      exact ed_turn_undo_none h hn
    | succ k => exact ed_turn_undo_yes h k hn
set_option maxRecDepth 100000 in
set_option maxHeartbeats 800000 in
theorem ed_undo {w : World} {b : Nat} {s : Sta} {rb : Nat} {p : Option Addr} {L : List ByteArray} (h : IsEd w b s rb p L) (k i n : Int) (x : ByteArray) : Calls Tryz.prog 64 #[.pointer (some ⟨b, 0, none⟩), (.agg #[.int .i64 k, .int .i64 i, .int .i64 n, .string x])] w (RetEd w b (undoD s.d)) := by
  obtain ⟨wX, hwX, kE, hb0, hz⟩ := box1 w #[.int .i64 k, .int .i64 i, .int .i64 n, .string x] 36
  have ct := fun W (hW : Below w.heap.size w W) => ed_turn_undo (h.later hW)
  obtain ⟨R, hR⟩ : ∃ R, undoD s.d = R := ⟨_, rfl⟩
  rw [hR] at ct ⊢
  obtain ⟨Rs, Re⟩ := R
  have CT := hid ct; have HB0 := hid hb0
  clear ct hR kE hb0 hz h
  go_enter Tryz.func64, Tryz.ntmps64
  go_wp2_with fail
  refine wp_region_held_drew (S := (fun _ : World => True)) (by kernel_rfl) True.intro (fun hHeld => ?_)
  refine sqt 0 ?_
  try simp only [Act.put, sqp]
  refine sqt 1 ?_
  try simp only [Act.put, sqp]
  refine sqt 2 ?_
  try simp only [Act.put, sqp]
  refine sqt 3 ?_
  try simp only [Act.put, sqp]
  refine sqt 4 ?_
  try simp only [Act.put, sqp]
  refine sqt 5 ?_
  try simp only [Act.put, sqp]
  refine sqt 6 ?_
  try simp only [Act.put, sqp]
  refine sqt 7 ?_
  try simp only [Act.put, sqp]
  refine sqt 8 ?_
  try simp only [Act.put, sqp]
  refine wpAnyH_ready (rs := [9]) (by kernel_rfl) (by simp) ?_
  refine AllReadyH.cons (by simp only [sqg]; rfl) (fun K hK => ?_) AllReadyH.nil
  go_simp
  (go_at_call 107; refine (CT.out _ (HB0.out.drew)).mono ?_; rintro e w1 ⟨s1, rb1, p1, L1, rfl, hi1, hd1, ha1⟩; have HQ := hid (And.intro hi1 (And.intro hd1 ha1)); clear hi1 hd1 ha1)
  try go_wp2_with fail
  refine hK.out _ _ ?_ (fun hHeld => ?_)
  · exact True.intro
  clear hK K
  try simp only [Act.put, sqp]
  refine sqt 10 ?_
  try simp only [Act.put, sqp]
  refine wpAnyH_done (by kernel_rfl) ?_ _
  go_wp2
  go_ret
  exact ⟨s1, rb1, p1, L1, rfl, HQ.out.1, HQ.out.2.1, (Apart.of_below (S := [b]) HB0.out.drew).trans HQ.out.2.2 (fun x hx => .inl hx)⟩
theorem ed_turn_redo {w : World} {b : Nat} {s : Sta} {rb : Nat} {p : Option Addr} {L : List ByteArray} (h : IsEd w b s rb p L) : Calls Tryz.prog 107 #[.pointer (some ⟨b, 0, none⟩), .pointer (some ⟨b, 5, none⟩), .pointer (some ⟨b, 4, none⟩), .func (.func 108) #[] #[]] w (RetEd w b (redoD s.d)) := by
  obtain ⟨t, m, u, ro, so, g⟩ := s
  cases so with
  | true =>
    have e : redoD (Sta.d ⟨t, m, u, ro, true, g⟩) = (Sta.d ⟨t, m, u, ro, true, g⟩, 11) := by unfold redoD; exact if_pos rfl
    rw [e]
    exact ed_turn_redo_open h
  | false =>
    cases hn : ro.l.length with
    | zero =>
      have e : redoD (Sta.d ⟨t, m, u, ro, false, g⟩) = (Sta.d ⟨t, m, u, ro, false, g⟩, 10) := by unfold redoD; exact (if_neg (fun h => by cases h)).trans (if_pos (show (lsP ro.l).length = 0 by rw [lsP_len]; exact hn))
      rw [e]
      exact ed_turn_redo_none h hn
    | succ k => exact ed_turn_redo_yes h k hn
set_option maxRecDepth 100000 in
set_option maxHeartbeats 800000 in
theorem ed_redo {w : World} {b : Nat} {s : Sta} {rb : Nat} {p : Option Addr} {L : List ByteArray} (h : IsEd w b s rb p L) (k i n : Int) (x : ByteArray) : Calls Tryz.prog 65 #[.pointer (some ⟨b, 0, none⟩), (.agg #[.int .i64 k, .int .i64 i, .int .i64 n, .string x])] w (RetEd w b (redoD s.d)) := by
  obtain ⟨wX, hwX, kE, hb0, hz⟩ := box1 w #[.int .i64 k, .int .i64 i, .int .i64 n, .string x] 36
  have ct := fun W (hW : Below w.heap.size w W) => ed_turn_redo (h.later hW)
  obtain ⟨R, hR⟩ : ∃ R, redoD s.d = R := ⟨_, rfl⟩
  rw [hR] at ct ⊢
  obtain ⟨Rs, Re⟩ := R
  have CT := hid ct; have HB0 := hid hb0
  clear ct hR kE hb0 hz h
  go_enter Tryz.func65, Tryz.ntmps65
  go_wp2_with fail
  refine wp_region_held_drew (S := (fun _ : World => True)) (by kernel_rfl) True.intro (fun hHeld => ?_)
  refine sqt 0 ?_
  try simp only [Act.put, sqp]
  refine sqt 1 ?_
  try simp only [Act.put, sqp]
  refine sqt 2 ?_
  try simp only [Act.put, sqp]
  refine sqt 3 ?_
  try simp only [Act.put, sqp]
  refine sqt 4 ?_
  try simp only [Act.put, sqp]
  refine sqt 5 ?_
  try simp only [Act.put, sqp]
  refine sqt 6 ?_
  try simp only [Act.put, sqp]
  refine sqt 7 ?_
  try simp only [Act.put, sqp]
  refine sqt 8 ?_
  try simp only [Act.put, sqp]
  refine wpAnyH_ready (rs := [9]) (by kernel_rfl) (by simp) ?_
  refine AllReadyH.cons (by simp only [sqg]; rfl) (fun K hK => ?_) AllReadyH.nil
  go_simp
  (go_at_call 107; refine (CT.out _ (HB0.out.drew)).mono ?_; rintro e w1 ⟨s1, rb1, p1, L1, rfl, hi1, hd1, ha1⟩; have HQ := hid (And.intro hi1 (And.intro hd1 ha1)); clear hi1 hd1 ha1)
  try go_wp2_with fail
  refine hK.out _ _ ?_ (fun hHeld => ?_)
  · exact True.intro
  clear hK K
  try simp only [Act.put, sqp]
  refine sqt 10 ?_
  try simp only [Act.put, sqp]
  refine wpAnyH_done (by kernel_rfl) ?_ _
  go_wp2
  go_ret
  exact ⟨s1, rb1, p1, L1, rfl, HQ.out.1, HQ.out.2.1, (Apart.of_below (S := [b]) HB0.out.drew).trans HQ.out.2.2 (fun x hx => .inl hx)⟩
set_option maxRecDepth 100000 in
set_option maxHeartbeats 400000 in
theorem ed_method1 (w : World) : Calls Tryz.prog 30 #[.int .i64 1] w fun e w' => e = .returned (.func (.func 60) #[] #[]) ∧ w = w' := by
  go_enter Tryz.func30, Tryz.ntmps30
  go_wp2
  go_ret
  exact ⟨rfl, rfl⟩
set_option maxRecDepth 100000 in
set_option maxHeartbeats 400000 in
theorem ed_method2 (w : World) : Calls Tryz.prog 30 #[.int .i64 2] w fun e w' => e = .returned (.func (.func 61) #[] #[]) ∧ w = w' := by
  go_enter Tryz.func30, Tryz.ntmps30
  go_wp2
  go_ret
  exact ⟨rfl, rfl⟩
set_option maxRecDepth 100000 in
set_option maxHeartbeats 400000 in
theorem ed_method3 (w : World) : Calls Tryz.prog 30 #[.int .i64 3] w fun e w' => e = .returned (.func (.func 62) #[] #[]) ∧ w = w' := by
  go_enter Tryz.func30, Tryz.ntmps30
  go_wp2
  go_ret
  exact ⟨rfl, rfl⟩
set_option maxRecDepth 100000 in
set_option maxHeartbeats 400000 in
theorem ed_method4 (w : World) : Calls Tryz.prog 30 #[.int .i64 4] w fun e w' => e = .returned (.func (.func 63) #[] #[]) ∧ w = w' := by
  go_enter Tryz.func30, Tryz.ntmps30
  go_wp2
  go_ret
  exact ⟨rfl, rfl⟩
set_option maxRecDepth 100000 in
set_option maxHeartbeats 400000 in
theorem ed_method5 (w : World) : Calls Tryz.prog 30 #[.int .i64 5] w fun e w' => e = .returned (.func (.func 64) #[] #[]) ∧ w = w' := by
  go_enter Tryz.func30, Tryz.ntmps30
  go_wp2
  go_ret
  exact ⟨rfl, rfl⟩
set_option maxRecDepth 100000 in
set_option maxHeartbeats 400000 in
theorem ed_method6 (w : World) : Calls Tryz.prog 30 #[.int .i64 6] w fun e w' => e = .returned (.func (.func 65) #[] #[]) ∧ w = w' := by
  go_enter Tryz.func30, Tryz.ntmps30
  go_wp2
  go_ret
  exact ⟨rfl, rfl⟩
set_option maxRecDepth 100000 in
set_option maxHeartbeats 400000 in
theorem ed_method7 (w : World) : Calls Tryz.prog 30 #[.int .i64 7] w fun e w' => e = .returned (.func (.func 66) #[] #[]) ∧ w = w' := by
  go_enter Tryz.func30, Tryz.ntmps30
  go_wp2
  go_ret
  exact ⟨rfl, rfl⟩
set_option maxRecDepth 100000 in
set_option maxHeartbeats 400000 in
theorem ed_method8 (w : World) : Calls Tryz.prog 30 #[.int .i64 8] w fun e w' => e = .returned (.func (.func 67) #[] #[]) ∧ w = w' := by
  go_enter Tryz.func30, Tryz.ntmps30
  go_wp2
  go_ret
  exact ⟨rfl, rfl⟩
set_option maxRecDepth 100000 in
set_option maxHeartbeats 400000 in
theorem ed_method_no (k : Int) (hk : ¬ (1 ≤ k ∧ k ≤ 8)) (w : World) : Calls Tryz.prog 30 #[.int .i64 k] w fun e w' => e = .returned .nilFunc ∧ w = w' := by
  have q1 : (k == 1) = false := beq_eq_false_iff_ne.2 (by omega)
  have q2 : (k == 2) = false := beq_eq_false_iff_ne.2 (by omega)
  have q3 : (k == 3) = false := beq_eq_false_iff_ne.2 (by omega)
  have q4 : (k == 4) = false := beq_eq_false_iff_ne.2 (by omega)
  have q5 : (k == 5) = false := beq_eq_false_iff_ne.2 (by omega)
  have q6 : (k == 6) = false := beq_eq_false_iff_ne.2 (by omega)
  have q7 : (k == 7) = false := beq_eq_false_iff_ne.2 (by omega)
  have q8 : (k == 8) = false := beq_eq_false_iff_ne.2 (by omega)
  go_enter Tryz.func30, Tryz.ntmps30
  go_wp2
  go_ret
  exact ⟨rfl, rfl⟩
theorem ed_fn1 (w : World) : (binOp .eql 60 (.func (.func 60) #[] #[]) .nilFunc).run Tryz.prog w = .ok (.bool false) w := by kernel_rfl
theorem ed_fn2 (w : World) : (binOp .eql 60 (.func (.func 61) #[] #[]) .nilFunc).run Tryz.prog w = .ok (.bool false) w := by kernel_rfl
theorem ed_fn3 (w : World) : (binOp .eql 60 (.func (.func 62) #[] #[]) .nilFunc).run Tryz.prog w = .ok (.bool false) w := by kernel_rfl
theorem ed_fn4 (w : World) : (binOp .eql 60 (.func (.func 63) #[] #[]) .nilFunc).run Tryz.prog w = .ok (.bool false) w := by kernel_rfl
theorem ed_fn5 (w : World) : (binOp .eql 60 (.func (.func 64) #[] #[]) .nilFunc).run Tryz.prog w = .ok (.bool false) w := by kernel_rfl
theorem ed_fn6 (w : World) : (binOp .eql 60 (.func (.func 65) #[] #[]) .nilFunc).run Tryz.prog w = .ok (.bool false) w := by kernel_rfl
theorem ed_fn7 (w : World) : (binOp .eql 60 (.func (.func 66) #[] #[]) .nilFunc).run Tryz.prog w = .ok (.bool false) w := by kernel_rfl
theorem ed_fn8 (w : World) : (binOp .eql 60 (.func (.func 67) #[] #[]) .nilFunc).run Tryz.prog w = .ok (.bool false) w := by kernel_rfl
theorem ed_fn0 (w : World) : (binOp .eql 60 .nilFunc .nilFunc).run Tryz.prog w = .ok (.bool true) w := by kernel_rfl
set_option maxRecDepth 100000 in
set_option maxHeartbeats 800000 in
theorem ed_do1 {w : World} {b : Nat} {s : Sta} {rb : Nat} {p : Option Addr} {L : List ByteArray} (h : IsEd w b s rb p L) (i n : Int) (x : ByteArray) {R : StaD × Int} (hc : ∀ W, Below w.heap.size w W → Calls Tryz.prog 60 #[.pointer (some ⟨b, 0, none⟩), (.agg #[.int .i64 1, .int .i64 i, .int .i64 n, .string x])] W (RetEd W b R)) :
    Calls Tryz.prog 12 #[.pointer (some ⟨b, 0, none⟩), (.agg #[.int .i64 1, .int .i64 i, .int .i64 n, .string x])] w (RetEd w b R) := by
  obtain ⟨Rs, Re⟩ := R
  obtain ⟨wX, hwX, kE, hb0, hz⟩ := box1 w #[.int .i64 1, .int .i64 i, .int .i64 n, .string x] 36
  have cn := fun W (hW : Below wX.heap.size wX W) => now_some ((h.later hb0).later hW).blk
  have cf := edr_f0 true (some ⟨rb, 0, none⟩) ⟨#[]⟩ s.m.a s.m.l.length s.m.c s.u.a s.u.l.length s.u.c s.r.a s.r.l.length s.r.c s.o s.g.a s.g.l.length s.g.c
  have cq := ed_fn1
  have CN := hid cn; have CM := hid ed_method1; have CC := hid hc; have HB0 := hid hb0; have KE := hid kE
  obtain ⟨z0, z1, z2, z3, -, -, -, -⟩ := kE.four
  clear cn kE hb0 hz h hc
  go_enter Tryz.func12, Tryz.ntmps12
  go_wp2_with fail
  refine (CM.out _).mono ?_; rintro e w1 ⟨rfl, rfl⟩
  go_wp2_with fail
  refine (CN.out _ (Below.refl _ _)).mono ?_; rintro e w1 ⟨rfl, hb1⟩
  have HB1 := hid (HB0.out.trans (hb1.mono HB0.out.size))
  clear z0 z1 z2 z3 hwX
  obtain ⟨z0, z1, z2, z3, -, -, -, -⟩ := (KE.out.onto hb1).four
  clear hb1
  go_wp2_with fail
  refine (CC.out _ HB1.out).mono ?_; rintro e w2 ⟨s1, rb1, p1, L1, rfl, hi1, hd1, ha1⟩
  have HQ := hid (And.intro hi1 (And.intro hd1 ha1))
  clear hi1 hd1 ha1 z0 z1 z2 z3
  go_wp2
  go_ret
  exact ⟨s1, rb1, p1, L1, rfl, HQ.out.1, HQ.out.2.1, (Apart.of_below (S := [b]) HB1.out).trans HQ.out.2.2 (fun x hx => .inl hx)⟩
set_option maxRecDepth 100000 in
set_option maxHeartbeats 800000 in
theorem ed_do2 {w : World} {b : Nat} {s : Sta} {rb : Nat} {p : Option Addr} {L : List ByteArray} (h : IsEd w b s rb p L) (i n : Int) (x : ByteArray) {R : StaD × Int} (hc : ∀ W, Below w.heap.size w W → Calls Tryz.prog 61 #[.pointer (some ⟨b, 0, none⟩), (.agg #[.int .i64 2, .int .i64 i, .int .i64 n, .string x])] W (RetEd W b R)) :
    Calls Tryz.prog 12 #[.pointer (some ⟨b, 0, none⟩), (.agg #[.int .i64 2, .int .i64 i, .int .i64 n, .string x])] w (RetEd w b R) := by
  obtain ⟨Rs, Re⟩ := R
  obtain ⟨wX, hwX, kE, hb0, hz⟩ := box1 w #[.int .i64 2, .int .i64 i, .int .i64 n, .string x] 36
  have cn := fun W (hW : Below wX.heap.size wX W) => now_some ((h.later hb0).later hW).blk
  have cf := edr_f0 true (some ⟨rb, 0, none⟩) ⟨#[]⟩ s.m.a s.m.l.length s.m.c s.u.a s.u.l.length s.u.c s.r.a s.r.l.length s.r.c s.o s.g.a s.g.l.length s.g.c
  have cq := ed_fn2
  have CN := hid cn; have CM := hid ed_method2; have CC := hid hc; have HB0 := hid hb0; have KE := hid kE
  obtain ⟨z0, z1, z2, z3, -, -, -, -⟩ := kE.four
  clear cn kE hb0 hz h hc
  go_enter Tryz.func12, Tryz.ntmps12
  go_wp2_with fail
  refine (CM.out _).mono ?_; rintro e w1 ⟨rfl, rfl⟩
  go_wp2_with fail
  refine (CN.out _ (Below.refl _ _)).mono ?_; rintro e w1 ⟨rfl, hb1⟩
  have HB1 := hid (HB0.out.trans (hb1.mono HB0.out.size))
  clear z0 z1 z2 z3 hwX
  obtain ⟨z0, z1, z2, z3, -, -, -, -⟩ := (KE.out.onto hb1).four
  clear hb1
  go_wp2_with fail
  refine (CC.out _ HB1.out).mono ?_; rintro e w2 ⟨s1, rb1, p1, L1, rfl, hi1, hd1, ha1⟩
  have HQ := hid (And.intro hi1 (And.intro hd1 ha1))
  clear hi1 hd1 ha1 z0 z1 z2 z3
  go_wp2
  go_ret
  exact ⟨s1, rb1, p1, L1, rfl, HQ.out.1, HQ.out.2.1, (Apart.of_below (S := [b]) HB1.out).trans HQ.out.2.2 (fun x hx => .inl hx)⟩
set_option maxRecDepth 100000 in
set_option maxHeartbeats 800000 in
theorem ed_do3 {w : World} {b : Nat} {s : Sta} {rb : Nat} {p : Option Addr} {L : List ByteArray} (h : IsEd w b s rb p L) (i n : Int) (x : ByteArray) {R : StaD × Int} (hc : ∀ W, Below w.heap.size w W → Calls Tryz.prog 62 #[.pointer (some ⟨b, 0, none⟩), (.agg #[.int .i64 3, .int .i64 i, .int .i64 n, .string x])] W (RetEd W b R)) :
    Calls Tryz.prog 12 #[.pointer (some ⟨b, 0, none⟩), (.agg #[.int .i64 3, .int .i64 i, .int .i64 n, .string x])] w (RetEd w b R) := by
  obtain ⟨Rs, Re⟩ := R
  obtain ⟨wX, hwX, kE, hb0, hz⟩ := box1 w #[.int .i64 3, .int .i64 i, .int .i64 n, .string x] 36
  have cn := fun W (hW : Below wX.heap.size wX W) => now_some ((h.later hb0).later hW).blk
  have cf := edr_f0 true (some ⟨rb, 0, none⟩) ⟨#[]⟩ s.m.a s.m.l.length s.m.c s.u.a s.u.l.length s.u.c s.r.a s.r.l.length s.r.c s.o s.g.a s.g.l.length s.g.c
  have cq := ed_fn3
  have CN := hid cn; have CM := hid ed_method3; have CC := hid hc; have HB0 := hid hb0; have KE := hid kE
  obtain ⟨z0, z1, z2, z3, -, -, -, -⟩ := kE.four
  clear cn kE hb0 hz h hc
  go_enter Tryz.func12, Tryz.ntmps12
  go_wp2_with fail
  refine (CM.out _).mono ?_; rintro e w1 ⟨rfl, rfl⟩
  go_wp2_with fail
  refine (CN.out _ (Below.refl _ _)).mono ?_; rintro e w1 ⟨rfl, hb1⟩
  have HB1 := hid (HB0.out.trans (hb1.mono HB0.out.size))
  clear z0 z1 z2 z3 hwX
  obtain ⟨z0, z1, z2, z3, -, -, -, -⟩ := (KE.out.onto hb1).four
  clear hb1
  go_wp2_with fail
  refine (CC.out _ HB1.out).mono ?_; rintro e w2 ⟨s1, rb1, p1, L1, rfl, hi1, hd1, ha1⟩
  have HQ := hid (And.intro hi1 (And.intro hd1 ha1))
  clear hi1 hd1 ha1 z0 z1 z2 z3
  go_wp2
  go_ret
  exact ⟨s1, rb1, p1, L1, rfl, HQ.out.1, HQ.out.2.1, (Apart.of_below (S := [b]) HB1.out).trans HQ.out.2.2 (fun x hx => .inl hx)⟩
set_option maxRecDepth 100000 in
set_option maxHeartbeats 800000 in
theorem ed_do4 {w : World} {b : Nat} {s : Sta} {rb : Nat} {p : Option Addr} {L : List ByteArray} (h : IsEd w b s rb p L) (i n : Int) (x : ByteArray) {R : StaD × Int} (hc : ∀ W, Below w.heap.size w W → Calls Tryz.prog 63 #[.pointer (some ⟨b, 0, none⟩), (.agg #[.int .i64 4, .int .i64 i, .int .i64 n, .string x])] W (RetEd W b R)) :
    Calls Tryz.prog 12 #[.pointer (some ⟨b, 0, none⟩), (.agg #[.int .i64 4, .int .i64 i, .int .i64 n, .string x])] w (RetEd w b R) := by
  obtain ⟨Rs, Re⟩ := R
  obtain ⟨wX, hwX, kE, hb0, hz⟩ := box1 w #[.int .i64 4, .int .i64 i, .int .i64 n, .string x] 36
  have cn := fun W (hW : Below wX.heap.size wX W) => now_some ((h.later hb0).later hW).blk
  have cf := edr_f0 true (some ⟨rb, 0, none⟩) ⟨#[]⟩ s.m.a s.m.l.length s.m.c s.u.a s.u.l.length s.u.c s.r.a s.r.l.length s.r.c s.o s.g.a s.g.l.length s.g.c
  have cq := ed_fn4
  have CN := hid cn; have CM := hid ed_method4; have CC := hid hc; have HB0 := hid hb0; have KE := hid kE
  obtain ⟨z0, z1, z2, z3, -, -, -, -⟩ := kE.four
  clear cn kE hb0 hz h hc
  go_enter Tryz.func12, Tryz.ntmps12
  go_wp2_with fail
  refine (CM.out _).mono ?_; rintro e w1 ⟨rfl, rfl⟩
  go_wp2_with fail
  refine (CN.out _ (Below.refl _ _)).mono ?_; rintro e w1 ⟨rfl, hb1⟩
  have HB1 := hid (HB0.out.trans (hb1.mono HB0.out.size))
  clear z0 z1 z2 z3 hwX
  obtain ⟨z0, z1, z2, z3, -, -, -, -⟩ := (KE.out.onto hb1).four
  clear hb1
  go_wp2_with fail
  refine (CC.out _ HB1.out).mono ?_; rintro e w2 ⟨s1, rb1, p1, L1, rfl, hi1, hd1, ha1⟩
  have HQ := hid (And.intro hi1 (And.intro hd1 ha1))
  clear hi1 hd1 ha1 z0 z1 z2 z3
  go_wp2
  go_ret
  exact ⟨s1, rb1, p1, L1, rfl, HQ.out.1, HQ.out.2.1, (Apart.of_below (S := [b]) HB1.out).trans HQ.out.2.2 (fun x hx => .inl hx)⟩
set_option maxRecDepth 100000 in
set_option maxHeartbeats 800000 in
theorem ed_do5 {w : World} {b : Nat} {s : Sta} {rb : Nat} {p : Option Addr} {L : List ByteArray} (h : IsEd w b s rb p L) (i n : Int) (x : ByteArray) {R : StaD × Int} (hc : ∀ W, Below w.heap.size w W → Calls Tryz.prog 64 #[.pointer (some ⟨b, 0, none⟩), (.agg #[.int .i64 5, .int .i64 i, .int .i64 n, .string x])] W (RetEd W b R)) :
    Calls Tryz.prog 12 #[.pointer (some ⟨b, 0, none⟩), (.agg #[.int .i64 5, .int .i64 i, .int .i64 n, .string x])] w (RetEd w b R) := by
  obtain ⟨Rs, Re⟩ := R
  obtain ⟨wX, hwX, kE, hb0, hz⟩ := box1 w #[.int .i64 5, .int .i64 i, .int .i64 n, .string x] 36
  have cn := fun W (hW : Below wX.heap.size wX W) => now_some ((h.later hb0).later hW).blk
  have cf := edr_f0 true (some ⟨rb, 0, none⟩) ⟨#[]⟩ s.m.a s.m.l.length s.m.c s.u.a s.u.l.length s.u.c s.r.a s.r.l.length s.r.c s.o s.g.a s.g.l.length s.g.c
  have cq := ed_fn5
  have CN := hid cn; have CM := hid ed_method5; have CC := hid hc; have HB0 := hid hb0; have KE := hid kE
  obtain ⟨z0, z1, z2, z3, -, -, -, -⟩ := kE.four
  clear cn kE hb0 hz h hc
  go_enter Tryz.func12, Tryz.ntmps12
  go_wp2_with fail
  refine (CM.out _).mono ?_; rintro e w1 ⟨rfl, rfl⟩
  go_wp2_with fail
  refine (CN.out _ (Below.refl _ _)).mono ?_; rintro e w1 ⟨rfl, hb1⟩
  have HB1 := hid (HB0.out.trans (hb1.mono HB0.out.size))
  clear z0 z1 z2 z3 hwX
  obtain ⟨z0, z1, z2, z3, -, -, -, -⟩ := (KE.out.onto hb1).four
  clear hb1
  go_wp2_with fail
  refine (CC.out _ HB1.out).mono ?_; rintro e w2 ⟨s1, rb1, p1, L1, rfl, hi1, hd1, ha1⟩
  have HQ := hid (And.intro hi1 (And.intro hd1 ha1))
  clear hi1 hd1 ha1 z0 z1 z2 z3
  go_wp2
  go_ret
  exact ⟨s1, rb1, p1, L1, rfl, HQ.out.1, HQ.out.2.1, (Apart.of_below (S := [b]) HB1.out).trans HQ.out.2.2 (fun x hx => .inl hx)⟩
set_option maxRecDepth 100000 in
set_option maxHeartbeats 800000 in
theorem ed_do6 {w : World} {b : Nat} {s : Sta} {rb : Nat} {p : Option Addr} {L : List ByteArray} (h : IsEd w b s rb p L) (i n : Int) (x : ByteArray) {R : StaD × Int} (hc : ∀ W, Below w.heap.size w W → Calls Tryz.prog 65 #[.pointer (some ⟨b, 0, none⟩), (.agg #[.int .i64 6, .int .i64 i, .int .i64 n, .string x])] W (RetEd W b R)) :
    Calls Tryz.prog 12 #[.pointer (some ⟨b, 0, none⟩), (.agg #[.int .i64 6, .int .i64 i, .int .i64 n, .string x])] w (RetEd w b R) := by
  obtain ⟨Rs, Re⟩ := R
  obtain ⟨wX, hwX, kE, hb0, hz⟩ := box1 w #[.int .i64 6, .int .i64 i, .int .i64 n, .string x] 36
  have cn := fun W (hW : Below wX.heap.size wX W) => now_some ((h.later hb0).later hW).blk
  have cf := edr_f0 true (some ⟨rb, 0, none⟩) ⟨#[]⟩ s.m.a s.m.l.length s.m.c s.u.a s.u.l.length s.u.c s.r.a s.r.l.length s.r.c s.o s.g.a s.g.l.length s.g.c
  have cq := ed_fn6
  have CN := hid cn; have CM := hid ed_method6; have CC := hid hc; have HB0 := hid hb0; have KE := hid kE
  obtain ⟨z0, z1, z2, z3, -, -, -, -⟩ := kE.four
  clear cn kE hb0 hz h hc
  go_enter Tryz.func12, Tryz.ntmps12
  go_wp2_with fail
  refine (CM.out _).mono ?_; rintro e w1 ⟨rfl, rfl⟩
  go_wp2_with fail
  refine (CN.out _ (Below.refl _ _)).mono ?_; rintro e w1 ⟨rfl, hb1⟩
  have HB1 := hid (HB0.out.trans (hb1.mono HB0.out.size))
  clear z0 z1 z2 z3 hwX
  obtain ⟨z0, z1, z2, z3, -, -, -, -⟩ := (KE.out.onto hb1).four
  clear hb1
  go_wp2_with fail
  refine (CC.out _ HB1.out).mono ?_; rintro e w2 ⟨s1, rb1, p1, L1, rfl, hi1, hd1, ha1⟩
  have HQ := hid (And.intro hi1 (And.intro hd1 ha1))
  clear hi1 hd1 ha1 z0 z1 z2 z3
  go_wp2
  go_ret
  exact ⟨s1, rb1, p1, L1, rfl, HQ.out.1, HQ.out.2.1, (Apart.of_below (S := [b]) HB1.out).trans HQ.out.2.2 (fun x hx => .inl hx)⟩
set_option maxRecDepth 100000 in
set_option maxHeartbeats 800000 in
theorem ed_do7 {w : World} {b : Nat} {s : Sta} {rb : Nat} {p : Option Addr} {L : List ByteArray} (h : IsEd w b s rb p L) (i n : Int) (x : ByteArray) {R : StaD × Int} (hc : ∀ W, Below w.heap.size w W → Calls Tryz.prog 66 #[.pointer (some ⟨b, 0, none⟩), (.agg #[.int .i64 7, .int .i64 i, .int .i64 n, .string x])] W (RetEd W b R)) :
    Calls Tryz.prog 12 #[.pointer (some ⟨b, 0, none⟩), (.agg #[.int .i64 7, .int .i64 i, .int .i64 n, .string x])] w (RetEd w b R) := by
  obtain ⟨Rs, Re⟩ := R
  obtain ⟨wX, hwX, kE, hb0, hz⟩ := box1 w #[.int .i64 7, .int .i64 i, .int .i64 n, .string x] 36
  have cn := fun W (hW : Below wX.heap.size wX W) => now_some ((h.later hb0).later hW).blk
  have cf := edr_f0 true (some ⟨rb, 0, none⟩) ⟨#[]⟩ s.m.a s.m.l.length s.m.c s.u.a s.u.l.length s.u.c s.r.a s.r.l.length s.r.c s.o s.g.a s.g.l.length s.g.c
  have cq := ed_fn7
  have CN := hid cn; have CM := hid ed_method7; have CC := hid hc; have HB0 := hid hb0; have KE := hid kE
  obtain ⟨z0, z1, z2, z3, -, -, -, -⟩ := kE.four
  clear cn kE hb0 hz h hc
  go_enter Tryz.func12, Tryz.ntmps12
  go_wp2_with fail
  refine (CM.out _).mono ?_; rintro e w1 ⟨rfl, rfl⟩
  go_wp2_with fail
  refine (CN.out _ (Below.refl _ _)).mono ?_; rintro e w1 ⟨rfl, hb1⟩
  have HB1 := hid (HB0.out.trans (hb1.mono HB0.out.size))
  clear z0 z1 z2 z3 hwX
  obtain ⟨z0, z1, z2, z3, -, -, -, -⟩ := (KE.out.onto hb1).four
  clear hb1
  go_wp2_with fail
  refine (CC.out _ HB1.out).mono ?_; rintro e w2 ⟨s1, rb1, p1, L1, rfl, hi1, hd1, ha1⟩
  have HQ := hid (And.intro hi1 (And.intro hd1 ha1))
  clear hi1 hd1 ha1 z0 z1 z2 z3
  go_wp2
  go_ret
  exact ⟨s1, rb1, p1, L1, rfl, HQ.out.1, HQ.out.2.1, (Apart.of_below (S := [b]) HB1.out).trans HQ.out.2.2 (fun x hx => .inl hx)⟩
set_option maxRecDepth 100000 in
set_option maxHeartbeats 800000 in
theorem ed_do8 {w : World} {b : Nat} {s : Sta} {rb : Nat} {p : Option Addr} {L : List ByteArray} (h : IsEd w b s rb p L) (i n : Int) (x : ByteArray) {R : StaD × Int} (hc : ∀ W, Below w.heap.size w W → Calls Tryz.prog 67 #[.pointer (some ⟨b, 0, none⟩), (.agg #[.int .i64 8, .int .i64 i, .int .i64 n, .string x])] W (RetEd W b R)) :
    Calls Tryz.prog 12 #[.pointer (some ⟨b, 0, none⟩), (.agg #[.int .i64 8, .int .i64 i, .int .i64 n, .string x])] w (RetEd w b R) := by
  obtain ⟨Rs, Re⟩ := R
  obtain ⟨wX, hwX, kE, hb0, hz⟩ := box1 w #[.int .i64 8, .int .i64 i, .int .i64 n, .string x] 36
  have cn := fun W (hW : Below wX.heap.size wX W) => now_some ((h.later hb0).later hW).blk
  have cf := edr_f0 true (some ⟨rb, 0, none⟩) ⟨#[]⟩ s.m.a s.m.l.length s.m.c s.u.a s.u.l.length s.u.c s.r.a s.r.l.length s.r.c s.o s.g.a s.g.l.length s.g.c
  have cq := ed_fn8
  have CN := hid cn; have CM := hid ed_method8; have CC := hid hc; have HB0 := hid hb0; have KE := hid kE
  obtain ⟨z0, z1, z2, z3, -, -, -, -⟩ := kE.four
  clear cn kE hb0 hz h hc
  go_enter Tryz.func12, Tryz.ntmps12
  go_wp2_with fail
  refine (CM.out _).mono ?_; rintro e w1 ⟨rfl, rfl⟩
  go_wp2_with fail
  refine (CN.out _ (Below.refl _ _)).mono ?_; rintro e w1 ⟨rfl, hb1⟩
  have HB1 := hid (HB0.out.trans (hb1.mono HB0.out.size))
  clear z0 z1 z2 z3 hwX
  obtain ⟨z0, z1, z2, z3, -, -, -, -⟩ := (KE.out.onto hb1).four
  clear hb1
  go_wp2_with fail
  refine (CC.out _ HB1.out).mono ?_; rintro e w2 ⟨s1, rb1, p1, L1, rfl, hi1, hd1, ha1⟩
  have HQ := hid (And.intro hi1 (And.intro hd1 ha1))
  clear hi1 hd1 ha1 z0 z1 z2 z3
  go_wp2
  go_ret
  exact ⟨s1, rb1, p1, L1, rfl, HQ.out.1, HQ.out.2.1, (Apart.of_below (S := [b]) HB1.out).trans HQ.out.2.2 (fun x hx => .inl hx)⟩
set_option maxRecDepth 100000 in
set_option maxHeartbeats 800000 in
theorem ed_do_no {w : World} {b : Nat} {s : Sta} {rb : Nat} {p : Option Addr} {L : List ByteArray} (h : IsEd w b s rb p L) (k i n : Int) (x : ByteArray) (hk : ¬ (1 ≤ k ∧ k ≤ 8)) :
    Calls Tryz.prog 12 #[.pointer (some ⟨b, 0, none⟩), (.agg #[.int .i64 k, .int .i64 i, .int .i64 n, .string x])] w (RetEd w b (s.d, 2)) := by
  obtain ⟨wX, hwX, kE, hb0, hz⟩ := box1 w #[.int .i64 k, .int .i64 i, .int .i64 n, .string x] 36
  have cn := fun W (hW : Below wX.heap.size wX W) => now_some ((h.later hb0).later hW).blk
  have cf := edr_f0 true (some ⟨rb, 0, none⟩) ⟨#[]⟩ s.m.a s.m.l.length s.m.c s.u.a s.u.l.length s.u.c s.r.a s.r.l.length s.r.c s.o s.g.a s.g.l.length s.g.c
  have cq := ed_fn0
  have CN := hid cn; have CM := hid (ed_method_no k hk); have HB0 := hid hb0; have H := hid h
  obtain ⟨z0, z1, z2, z3, -, -, -, -⟩ := kE.four
  clear cn kE hb0 hz h hk
  go_enter Tryz.func12, Tryz.ntmps12
  go_wp2_with fail
  refine (CM.out _).mono ?_; rintro e w1 ⟨rfl, rfl⟩
  go_wp2_with fail
  refine (CN.out _ (Below.refl _ _)).mono ?_; rintro e w1 ⟨rfl, hb1⟩
  have HB1 := hid (HB0.out.trans (hb1.mono HB0.out.size))
  clear z0 z1 z2 z3 hwX hb1
  go_wp2
  go_ret
  exact ⟨s, rb, p, L, rfl, H.out.later HB1.out, rfl, .of_below HB1.out⟩
theorem ed_do_any {w : World} {b : Nat} {s : Sta} {rb : Nat} {p : Option Addr} {L : List ByteArray} (h : IsEd w b s rb p L) (k i n : Int) (x : ByteArray) (hi : i64P i) (hx : x.size ≤ 1000000) :
    Calls Tryz.prog 12 #[.pointer (some ⟨b, 0, none⟩), (.agg #[.int .i64 k, .int .i64 i, .int .i64 n, .string x])] w (RetEd w b (doD s.d k i n x)) := by
  by_cases hk : 1 ≤ k ∧ k ≤ 8
  case neg =>
    have e : doD s.d k i n x = (s.d, 2) := by
      unfold doD
      rw [if_neg (by omega), if_neg (by omega), if_neg (by omega), if_neg (by omega), if_neg (by omega), if_neg (by omega), if_neg (by omega), if_neg (by omega)]
    rw [e]
    exact ed_do_no h k i n x hk
  obtain ⟨t, m, u, ro, so, g⟩ := s
  have hxm : x.size ≤ maxLen := by unfold maxLen; omega
  rcases (show k = 1 ∨ k = 2 ∨ k = 3 ∨ k = 4 ∨ k = 5 ∨ k = 6 ∨ k = 7 ∨ k = 8 by omega) with rfl | rfl | rfl | rfl | rfl | rfl | rfl | rfl
  · show Calls _ _ _ w (RetEd w b (insD _ i x))
    refine ed_do1 h i n x fun W hW => ?_
    by_cases h1 : insE t i x = 0
    · exact ed_insert_yes (h.later hW) 1 i n x hx hi h1
    · have e : insD (Sta.d ⟨t, m, u, ro, so, g⟩) i x = (Sta.d ⟨t, m, u, ro, so, g⟩, insE t i x) := by unfold insD; exact if_pos h1
      rw [e]
      exact ed_insert_no (h.later hW) 1 i n x hx hi h1
  · show Calls _ _ _ w (RetEd w b (delD _ i n))
    refine ed_do2 h i n x fun W hW => ?_
    by_cases h1 : delE t i n = 0
    · exact ed_remove_yes (h.later hW) 2 i n x hi h1
    · have e : delD (Sta.d ⟨t, m, u, ro, so, g⟩) i n = (Sta.d ⟨t, m, u, ro, so, g⟩, delE t i n) := by unfold delD; exact if_pos h1
      rw [e]
      exact ed_remove_no (h.later hW) 2 i n x hi h1
  · show Calls _ _ _ w (RetEd w b (markD _ i x))
    refine ed_do3 h i n x fun W hW => ?_
    have h' := h.later hW
    unfold markD
    by_cases h1 : markB x.data.toList = false
    · rw [if_pos h1]; exact ed_mark_name h' 3 i n x hxm h1
    rw [if_neg h1]
    have h1 := bool_yes h1
    by_cases h2 : i < 0 ∨ (t.size : Int) < i
    · rw [if_pos (show i < 0 ∨ ((Sta.d ⟨t, m, u, ro, so, g⟩).t.size : Int) < i from h2)]
      rcases h2 with h2 | h2
      · exact ed_mark_below h' 3 i n x hxm h1 h2
      · exact ed_mark_beyond h' 3 i n x hxm h1 h2
    rw [if_neg (show ¬ (i < 0 ∨ ((Sta.d ⟨t, m, u, ro, so, g⟩).t.size : Int) < i) from h2)]
    have h3 : 0 ≤ i ∧ i ≤ t.size := by omega
    by_cases h4 : edgeB t.data.toList i = false
    · rw [if_pos (show edgeB (Sta.d ⟨t, m, u, ro, so, g⟩).t.data.toList i = false from h4)]; exact ed_mark_split h' 3 i n x hxm h1 h3 h4
    rw [if_neg (show ¬ edgeB (Sta.d ⟨t, m, u, ro, so, g⟩).t.data.toList i = false from h4)]
    have h4 := bool_yes h4
    unfold withMk
    by_cases h5 : (setM m.l ⟨x, i⟩).2 = 0
    · have e : (setM (Sta.d ⟨t, m, u, ro, so, g⟩).m ⟨x, i⟩).2 = 0 := h5
      rw [if_pos e, e]
      exact ed_mark_set h' 3 i n x hxm h1 h3 h4 h5
    · rw [if_neg (show ¬ (setM (Sta.d ⟨t, m, u, ro, so, g⟩).m ⟨x, i⟩).2 = 0 from h5)]
      exact ed_mark_not h' 3 i n x hxm h1 h3 h4 h5
  · show Calls _ _ _ w (RetEd w b (unmarkD _ x))
    refine ed_do4 h i n x fun W hW => ?_
    have h' := h.later hW
    unfold unmarkD withMk
    by_cases h5 : (drpM m.l x).2 = 0
    · have e : (drpM (Sta.d ⟨t, m, u, ro, so, g⟩).m x).2 = 0 := h5
      rw [if_pos e, e]
      exact ed_unmark_yes h' 4 i n x h5
    · rw [if_neg (show ¬ (drpM (Sta.d ⟨t, m, u, ro, so, g⟩).m x).2 = 0 from h5)]
      exact ed_unmark_not h' 4 i n x h5
  · exact ed_do5 h i n x fun W hW => ed_undo (h.later hW) 5 i n x
  · exact ed_do6 h i n x fun W hW => ed_redo (h.later hW) 6 i n x
  · show Calls _ _ _ w (RetEd w b (beginD _))
    refine ed_do7 h i n x fun W hW => ?_
    cases so with
    | true => exact ed_begin_no (h.later hW) 7 i n x
    | false => exact ed_begin_yes (h.later hW) 7 i n x
  · show Calls _ _ _ w (RetEd w b (endD _))
    refine ed_do8 h i n x fun W hW => ?_
    cases so with
    | false => exact ed_end_no (h.later hW) 8 i n x
    | true =>
      by_cases hg : g.l.length = 0
      · have e : endD (Sta.d ⟨t, m, u, ro, true, g⟩) = (⟨t, m.l, lsP u.l, lsP ro.l, false, []⟩, 0) := by unfold endD; rw [if_neg (fun h => by cases h), show (Sta.d ⟨t, m, u, ro, true, g⟩).g.length = 0 from hg]; rfl
        rw [e]
        exact ed_end_none (h.later hW) 8 i n x hg
      · have e : endD (Sta.d ⟨t, m, u, ro, true, g⟩) = (⟨t, m.l, pushL (lsP u.l) g.l, lsP ro.l, false, []⟩, 0) := by unfold endD; rw [if_neg (fun h => by cases h), if_neg (show ¬ (Sta.d ⟨t, m, u, ro, true, g⟩).g.length = 0 from hg)]; rfl
        rw [e]
        exact ed_end_some (h.later hW) 8 i n x hg
end Go.Proofs.YtfiobemeogaaiaaGreat
namespace Go.Proofs.YtfiobemeogaaiaaGreat
open Lib (hid)
open Go.RowKit
set_option linter.unusedVariables false
set_option linter.unusedSimpArgs false
theorem OwnK.off {w : World} {base : Nat} {x : KPc} {S : List Nat} (h : OwnK w base x) (hS : ∀ i ∈ S, i < base) : KPo S w x ∧ x.l.length ≤ x.c ∧ x.c ≤ maxLen := by
  obtain ⟨a, c, ev, hr⟩ := own_krow h
  obtain ⟨xa, xl, xc⟩ := x
  injection ev with e1 e2 e3
  simp only at e1 e3
  subst e1
  subst e3
  exact ⟨⟨hr.row.more fun b hb => ⟨hb.2, fun g => by have := hS b g; have := hb.1; omega⟩, hr.nil⟩, hr.le, hr.cap⟩
theorem OwnE.off {w : World} {base : Nat} {x : EPc} {S : List Nat} (h : OwnE w base x) (hS : ∀ i ∈ S, i < base) : EPo S w x := by
  obtain ⟨a, c, ev, hr⟩ := own_erow h
  obtain ⟨xa, xl, xc⟩ := x
  injection ev with e1 e2 e3
  simp only at e1 e3
  subst e1
  subst e3
  exact hr.off hS
theorem CopS.off {w : World} {base : Nat} {x : SPc} {S : List Nat} (h : CopS w base x) (hs : SPcs w x) (hS : ∀ i ∈ S, i < base) : SPo S w x := by
  rcases h with h | ⟨g, h1, h2, h3, h4⟩
  · exact ⟨fun k hk => absurd hk (by rw [h]; simp), fun y hy => absurd hy (by rw [h]; simp), hs.nil, hs.le, hs.cap⟩
  · refine ⟨fun k hk => ?_, fun y hy => (h4 y hy).off fun i hi => by have := hS i hi; omega, hs.nil, hs.le, hs.cap⟩
    obtain ⟨ad, e, hb, q⟩ := hs.row k hk
    refine ⟨ad, e, ⟨hb, fun gi => ?_⟩, q⟩
    rw [h1] at e
    cases e
    have := hS _ gi
    simp only at this
    omega
theorem CopI.off {w : World} {s s' : Sta} {b1 b2 b3 : Nat} {w' : World} (h : CopI w s s' b1 b2 b3 w') {S : List Nat} (hS : ∀ i ∈ S, i < w.heap.size) : StaO S w' s' ∧ s'.m.l.length ≤ s'.m.c ∧ s'.m.c ≤ maxLen := by
  have l1 := h.l1; have l2 := h.l2; have l3 := h.l3
  have hm := OwnK.off h.m hS
  exact ⟨⟨hm.1, h.u.off h.us fun i hi => by have := hS i hi; omega, h.r.off h.rs fun i hi => by have := hS i hi; omega, OwnE.off h.g fun i hi => by have := hS i hi; omega⟩, hm.2⟩
structure StaF (s : Sta) : Prop where
  m : s.m.l.length ≤ 1000
  u : s.u.l.length ≤ 1000
  r : s.r.l.length ≤ 1000
  g : s.g.l.length ≤ 1000
  z : ∀ x ∈ s.u.l ++ s.r.l, x.l.length ≤ 1000000
theorem InvS.few {s : Sta} (h : InvS s.d) : StaF s := by
  have h1 : s.m.l.length ≤ 16 := h.ml
  have h2 : (lsP s.u.l).length ≤ 16 := h.ul.1
  have h3 : (lsP s.r.l).length ≤ 16 := h.rl.1
  have h4 : s.g.l.length ≤ 32 := h.gl
  rw [lsP_len] at h2 h3
  refine ⟨by omega, by omega, by omega, by omega, fun x hx => ?_⟩
  rcases List.mem_append.1 hx with hx | hx
  · exact Nat.le_trans (lsP_all (fun y hy => (h.ul.2 y hy).2) x hx) (by decide)
  · exact Nat.le_trans (lsP_all (fun y hy => (h.rl.2 y hy).2) x hx) (by decide)
set_option maxRecDepth 100000 in
set_option maxHeartbeats 1600000 in
theorem ed_state {w : World} {e : Option Addr} {made : Bool} {r p : Option Addr} {L : List ByteArray} {s : Sta} (hn : Nw w e (edN made r ⟨#[]⟩ s.m.a s.m.l.length s.m.c s.u.a s.u.l.length s.u.c s.r.a s.r.l.length s.r.c s.o s.g.a s.g.l.length s.g.c)) (hr : RopeW w r p L s.t) (hin : StaIn w s) (hf : StaF s) (S : List Nat) (hS : InS S w) :
    Calls Tryz.prog 17 #[.pointer e] w fun x w' => ∃ s' : Sta, x = .returned s'.v ∧ s'.d = s.d ∧ StaO S w' s' ∧ Below w.heap.size w w' := by
  obtain ⟨wX, hwX, kC, hb0, hz⟩ := box1 w #[.string ⟨#[]⟩, .slice none 0 0, .slice none 0 0, .slice none 0 0, .bool false, .slice none 0 0] 31
  have KC0 := hid (kC)
  have HB0 := hid (hb0)
  have HG0 := hid (Nat.le_refl wX.heap.size)
  have hsx : ∀ W : World, wX.heap.size ≤ W.heap.size → ∀ i ∈ (w.heap.size :: S), i < W.heap.size := fun W h i hi => by
    rcases List.mem_cons.1 hi with rfl | hi
    · omega
    · have := hS i hi; omega
  have cn := fun W (hW : Below w.heap.size w W) => hn.out W hW
  have cf := edr_f2 made r ⟨#[]⟩ s.m.a s.m.l.length s.m.c s.u.a s.u.l.length s.u.c s.r.a s.r.l.length s.r.c s.o s.g.a s.g.l.length s.g.c
  have cc := fun W (hW : Below w.heap.size w W) => copy_any ⟨⟨#[]⟩, s.m, s.u, s.r, s.o, s.g⟩ W ⟨(hin.later hW).m, (hin.later hW).u, (hin.later hW).r, (hin.later hW).g⟩ hf.m hf.u hf.r hf.g hf.z
  have cr := fun W (hW : Below w.heap.size w W) => ed_rope (hn.later hW)
  have ct := fun W (hW : Below w.heap.size w W) => ro_text (hr.later hW)
  have CN := hid cn; have CC := hid cc; have CR := hid cr; have CT := hid ct; have HSX := hid hsx
  have hzl : w.heap.size < wX.heap.size := by omega
  clear cn cc cr ct hsx hb0 kC hz hn hr hin hf hS
  obtain ⟨zC0_0, zC0_1, zC0_2, zC0_3, zC0_4, zC0_5, fC0_0, fC0_1, fC0_2, fC0_3, fC0_4, fC0_5⟩ := KC0.out.all6
  go_enter Tryz.func17, Tryz.ntmps17
  go_wp2_with fail
  refine (CN.out _ HB0.out).mono ?_; rintro e w1 ⟨rfl, hb⟩
  clear zC0_0 zC0_1 zC0_2 zC0_3 zC0_4 zC0_5 fC0_0 fC0_1 fC0_2 fC0_3 fC0_4 fC0_5
  have KC1 := hid (KC0.out.onto hb)
  have HB1 := hid (HB0.out.trans (hb.mono HB0.out.size))
  have HG1 := hid (Nat.le_trans HG0.out hb.size)
  clear hb KC0 HB0 HG0
  obtain ⟨zC1_0, zC1_1, zC1_2, zC1_3, zC1_4, zC1_5, fC1_0, fC1_1, fC1_2, fC1_3, fC1_4, fC1_5⟩ := KC1.out.all6
  clear hwX
  go_wp2_with fail
  refine (CC.out _ HB1.out).mono ?_; rintro e w2 ⟨⟨t1, m1, u1, r1, o1, g1⟩, b1, b2, b3, rfl, hci⟩
  clear zC1_0 zC1_1 zC1_2 zC1_3 zC1_4 zC1_5 fC1_0 fC1_1 fC1_2 fC1_3 fC1_4 fC1_5
  have hb := hci.bel
  have hof := hci.off (S := w.heap.size :: S) (HSX.out _ HG1.out)
  have hd := hci.d
  unfold Sta.d at hd
  injection hd with d1 d2 d3 d4 d5 d6
  simp only at d1 d2 d3 d4 d5 d6
  subst d1
  subst d5
  have HD := hid (And.intro d2 (And.intro d3 (And.intro d4 d6)))
  clear hci d2 d3 d4 d6
  have KC2 := hid (KC1.out.onto hb)
  have HB2 := hid (HB1.out.trans (hb.mono HB1.out.size))
  have HG2 := hid (Nat.le_trans HG1.out hb.size)
  have RF2 := hid hof.1
  clear hb hof KC1 HB1 HG1
  obtain ⟨zC2_0, zC2_1, zC2_2, zC2_3, zC2_4, zC2_5, fC2_0, fC2_1, fC2_2, fC2_3, fC2_4, fC2_5⟩ := KC2.out.all6
  replace RF2 := hid (RF2.out.wide (S' := (w.heap.size :: w2.heap.size :: S)) (fun i hi => by simp only [List.mem_cons] at hi; rcases hi with rfl | rfl | hi; exact .inl (by simp); exact .inr (Nat.le_refl _); exact .inl (by simp [hi])))
  have hxa2 : wX.heap.size ≤ w2.heap.size := HG2.out
  obtain ⟨wA2, hwA2, kA, hbA, hzA⟩ := box1 w2 #[.string ⟨#[]⟩, .slice m1.a m1.l.length m1.c, .slice u1.a u1.l.length u1.c, .slice r1.a r1.l.length r1.c, .bool s.o, .slice g1.a g1.l.length g1.c] 31
  have KC3 := hid (KC2.out.onto hbA)
  have RF3 := hid (RF2.out.later hbA)
  have HB3 := hid (HB2.out.trans (hbA.mono HB2.out.size))
  have HG3 := hid (Nat.le_trans HG2.out hbA.size)
  have KD3 := hid kA
  have hzz2 : w2.heap.size < wA2.heap.size := by omega
  have HZD := hid hzz2
  clear kA hbA hzA hzz2 KC2 RF2 HB2 HG2
  obtain ⟨zC3_0, zC3_1, zC3_2, zC3_3, zC3_4, zC3_5, fC3_0, fC3_1, fC3_2, fC3_3, fC3_4, fC3_5⟩ := KC3.out.all6
  obtain ⟨zD3_0, zD3_1, zD3_2, zD3_3, zD3_4, zD3_5, fD3_0, fD3_1, fD3_2, fD3_3, fD3_4, fD3_5⟩ := KD3.out.all6
  go_wp2_with fail
  refine (CR.out _ HB3.out).mono ?_; rintro e w4 ⟨rfl, hb⟩
  clear zC2_0 zC2_1 zC2_2 zC2_3 zC2_4 zC2_5 fC2_0 fC2_1 fC2_2 fC2_3 fC2_4 fC2_5 hwA2 zC3_0 zC3_1 zC3_2 zC3_3 zC3_4 zC3_5 fC3_0 fC3_1 fC3_2 fC3_3 fC3_4 fC3_5 zD3_0 zD3_1 zD3_2 zD3_3 zD3_4 zD3_5 fD3_0 fD3_1 fD3_2 fD3_3 fD3_4 fD3_5
  have KC4 := hid (KC3.out.onto hb)
  have KD4 := hid (KD3.out.onto hb)
  have RF4 := hid (RF3.out.later hb)
  have HB4 := hid (HB3.out.trans (hb.mono HB3.out.size))
  have HG4 := hid (Nat.le_trans HG3.out hb.size)
  clear hb KC3 KD3 RF3 HB3 HG3
  obtain ⟨zC4_0, zC4_1, zC4_2, zC4_3, zC4_4, zC4_5, fC4_0, fC4_1, fC4_2, fC4_3, fC4_4, fC4_5⟩ := KC4.out.all6
  obtain ⟨zD4_0, zD4_1, zD4_2, zD4_3, zD4_4, zD4_5, fD4_0, fD4_1, fD4_2, fD4_3, fD4_4, fD4_5⟩ := KD4.out.all6
  go_wp2_with fail
  refine (CT.out _ HB4.out).mono ?_; rintro e w5 ⟨rfl, hb⟩
  clear zC4_0 zC4_1 zC4_2 zC4_3 zC4_4 zC4_5 fC4_0 fC4_1 fC4_2 fC4_3 fC4_4 fC4_5 zD4_0 zD4_1 zD4_2 zD4_3 zD4_4 zD4_5 fD4_0 fD4_1 fD4_2 fD4_3 fD4_4 fD4_5
  have KC5 := hid (KC4.out.onto hb)
  have KD5 := hid (KD4.out.onto hb)
  have RF5 := hid (RF4.out.later hb)
  have HB5 := hid (HB4.out.trans (hb.mono HB4.out.size))
  have HG5 := hid (Nat.le_trans HG4.out hb.size)
  clear hb KC4 KD4 RF4 HB4 HG4
  obtain ⟨zC5_0, zC5_1, zC5_2, zC5_3, zC5_4, zC5_5, fC5_0, fC5_1, fC5_2, fC5_3, fC5_4, fC5_5⟩ := KC5.out.all6
  obtain ⟨zD5_0, zD5_1, zD5_2, zD5_3, zD5_4, zD5_5, fD5_0, fD5_1, fD5_2, fD5_3, fD5_4, fD5_5⟩ := KD5.out.all6
  have kD : Blk (w5.setCell ⟨w2.heap.size, 0, none⟩ (.string s.t)) (w2.heap.size) #[.string s.t, .slice m1.a m1.l.length m1.c, .slice u1.a u1.l.length u1.c, .slice r1.a r1.l.length r1.c, .bool s.o, .slice g1.a g1.l.length g1.c] 31 := (KD5.out.set 0 _)
  have kC : Blk (w5.setCell ⟨w2.heap.size, 0, none⟩ (.string s.t)) (w.heap.size) #[.string ⟨#[]⟩, .slice none 0 0, .slice none 0 0, .slice none 0 0, .bool false, .slice none 0 0] 31 := (KC5.out.other ⟨w2.heap.size, 0, none⟩ (by show w2.heap.size ≠ w.heap.size; omega) _)
  have ap : Apart (w.heap.size :: w2.heap.size :: S) w5 (w5.setCell ⟨w2.heap.size, 0, none⟩ (.string s.t)) := (Apart.refl (w.heap.size :: w2.heap.size :: S) w5).setCell (p := ⟨w2.heap.size, 0, none⟩) (.inl (by simp)) _
  have rF := RF5.out.apart ap
  have hB := ((HB5.out.setCell (p := ⟨w2.heap.size, 0, none⟩) (by show w.heap.size ≤ w2.heap.size; omega) _) : Below w.heap.size w (w5.setCell ⟨w2.heap.size, 0, none⟩ (.string s.t)))
  have hz : (w5.setCell ⟨w2.heap.size, 0, none⟩ (.string s.t)).heap.size = w5.heap.size := by simp
  obtain ⟨v6, hv6⟩ : ∃ V, (w5.setCell ⟨w2.heap.size, 0, none⟩ (.string s.t)) = V := ⟨_, rfl⟩
  rw [hv6] at kC kD rF hB hz
  have KC6 := hid kC
  have KD6 := hid kD
  have RF6 := hid rF
  have HB6 := hid hB
  have HG6 := hid (Nat.le_trans HG5.out (Nat.le_of_eq hz.symm))
  clear kC kD rF hB hz ap KC5 KD5 RF5 HB5 HG5
  obtain ⟨zC6_0, zC6_1, zC6_2, zC6_3, zC6_4, zC6_5, fC6_0, fC6_1, fC6_2, fC6_3, fC6_4, fC6_5⟩ := KC6.out.all6
  obtain ⟨zD6_0, zD6_1, zD6_2, zD6_3, zD6_4, zD6_5, fD6_0, fD6_1, fD6_2, fD6_3, fD6_4, fD6_5⟩ := KD6.out.all6
  go_wp2
  refine bodyPost_ret (v := Sta.v ⟨s.t, m1, u1, r1, s.o, g1⟩) (by simp [results, Tryz.results17, go_sem, zC6_0, zC6_1, zC6_2, zC6_3, zC6_4, zC6_5, zD6_0, zD6_1, zD6_2, zD6_3, zD6_4, zD6_5]) rfl ?_
  have hD := HD.out
  refine ⟨⟨s.t, m1, u1, r1, s.o, g1⟩, rfl, ?_, ?_, ?_⟩
  · unfold Sta.d
    simp only [hD.1, hD.2.1, hD.2.2.1, hD.2.2.2]
  · refine StaO.wide (S := (w.heap.size :: w2.heap.size :: S)) (s := ⟨s.t, m1, u1, r1, s.o, g1⟩) (StaO.apart (w := v6) ⟨RF6.out.m, RF6.out.u, RF6.out.r, RF6.out.g⟩ ?_) (fun i hi => .inl (by simp [hi]))
    iterate 6 refine Apart.setCell ?_ (.inl (by simp)) _
    exact Apart.refl _ _
  · iterate 6 refine Below.setCell ?_ (by show w.heap.size ≤ w.heap.size; omega) _
    exact HB6.out
set_option maxRecDepth 100000 in
set_option maxHeartbeats 1600000 in
theorem ed_load_yes (s : Sta) (w : World) (hin : StaIn w s) (hz2 : StaZ s) (hri : rightP s = true) :
    Calls Tryz.prog 22 #[s.v] w fun e w' => ∃ (b : Nat) (s' : Sta) (rb : Nat) (p : Option Addr) (L : List ByteArray), e = .returned (.tuple #[.pointer (some ⟨b, 0, none⟩), .int .i64 0]) ∧ IsEd w' b s' rb p L ∧ s'.d = s.d ∧ w.heap.size ≤ b ∧ Below w.heap.size w w' := by
  have hinv := (inv_iff s).1 hri
  have hf := hinv.few
  have hof : ofE s.t = 0 := ofE_yes hinv.v hinv.z
  have HI := hid hinv
  clear hinv
  obtain ⟨wX, hwX, kA, hb0, hz⟩ := box1 w #[.string s.t, .slice s.m.a s.m.l.length s.m.c, .slice s.u.a s.u.l.length s.u.c, .slice s.r.a s.r.l.length s.r.c, .bool s.o, .slice s.g.a s.g.l.length s.g.c] 31
  have KA0 := hid (kA)
  have HB0 := hid (hb0)
  have HW0 := hid (Below.refl wX.heap.size wX)
  have HG0 := hid (Nat.le_refl wX.heap.size)
  have cr := fun W (hW : Below w.heap.size w W) => stright_any s W (hin.later hW) hz2
  simp only [hri] at cr
  have co := fun W => (ro_of s.t (by have := hz2.t; unfold maxLen; omega) W).mono fun e w' h => h.yes hof
  have cc := fun W (hW : Below w.heap.size w W) => copy_any s W (hin.later hW) hf.m hf.u hf.r hf.g hf.z
  have CO := hid co; have CC := hid cc
  clear co cc hof hf
  have CR := hid cr
  have hzl : w.heap.size < wX.heap.size := by omega
  clear cr kA hb0 hz hin hz2 hri
  obtain ⟨zA0_0, zA0_1, zA0_2, zA0_3, zA0_4, zA0_5, fA0_0, fA0_1, fA0_2, fA0_3, fA0_4, fA0_5⟩ := KA0.out.all6
  go_enter Tryz.func22, Tryz.ntmps22
  go_wp2_with fail
  refine (CR.out _ HB0.out).mono ?_; rintro e w1 ⟨rfl, hb⟩
  clear zA0_0 zA0_1 zA0_2 zA0_3 zA0_4 zA0_5 fA0_0 fA0_1 fA0_2 fA0_3 fA0_4 fA0_5
  have KA1 := hid (KA0.out.onto hb)
  have HB1 := hid (HB0.out.trans (hb.mono HB0.out.size))
  have HG1 := hid (Nat.le_trans HG0.out hb.size)
  have HW1 := hid (HW0.out.trans (hb.mono HW0.out.size))
  clear hb KA0 HB0 HG0
  obtain ⟨zA1_0, zA1_1, zA1_2, zA1_3, zA1_4, zA1_5, fA1_0, fA1_1, fA1_2, fA1_3, fA1_4, fA1_5⟩ := KA1.out.all6
  clear hwX
  go_wp2_with fail
  refine (CO.out _).mono ?_; rintro e w2 ⟨rb, p, L, rfl, hR, hb⟩
  clear zA1_0 zA1_1 zA1_2 zA1_3 zA1_4 zA1_5 fA1_0 fA1_1 fA1_2 fA1_3 fA1_4 fA1_5
  have KA2 := hid (KA1.out.onto hb)
  have HB2 := hid (HB1.out.trans (hb.mono HB1.out.size))
  have HG2 := hid (Nat.le_trans HG1.out hb.size)
  have HW2 := hid (HW1.out.trans (hb.mono HW1.out.size))
  have HR2 := hid hR
  clear hb hR KA1 HB1 HG1
  obtain ⟨zA2_0, zA2_1, zA2_2, zA2_3, zA2_4, zA2_5, fA2_0, fA2_1, fA2_2, fA2_3, fA2_4, fA2_5⟩ := KA2.out.all6
  go_wp2_with fail
  refine (CC.out _ HB2.out).mono ?_; rintro e w3 ⟨⟨t1, m1, u1, r1, o1, g1⟩, b1, b2, b3, rfl, hci⟩
  clear zA2_0 zA2_1 zA2_2 zA2_3 zA2_4 zA2_5 fA2_0 fA2_1 fA2_2 fA2_3 fA2_4 fA2_5
  have hb := hci.bel
  have hof := hci.off (S := [w.heap.size]) (fun i hi => by rw [List.mem_singleton.1 hi]; exact KA2.out.lt)
  have hd := hci.d
  unfold Sta.d at hd
  injection hd with d1 d2 d3 d4 d5 d6
  simp only at d1 d2 d3 d4 d5 d6
  subst d1
  subst d5
  have HD := hid (And.intro d2 (And.intro d3 (And.intro d4 d6)))
  have HCH3 := hid hb
  clear hci d2 d3 d4 d6
  have KA3 := hid (KA2.out.onto hb)
  have HB3 := hid (HB2.out.trans (hb.mono HB2.out.size))
  have HG3 := hid (Nat.le_trans HG2.out hb.size)
  have HW3 := hid (HW2.out.trans (hb.mono HW2.out.size))
  have RF3 := hid hof.1
  have HML := hid hof.2
  clear hb hof KA2 HB2 HG2
  obtain ⟨zA3_0, zA3_1, zA3_2, zA3_3, zA3_4, zA3_5, fA3_0, fA3_1, fA3_2, fA3_3, fA3_4, fA3_5⟩ := KA3.out.all6
  replace RF3 := hid (RF3.out.wide (S' := [w.heap.size, w3.heap.size]) (fun i hi => by simp only [List.mem_cons, List.not_mem_nil, or_false] at hi; rcases hi with rfl | rfl; exact .inl (by simp); exact .inr (Nat.le_refl _)))
  have hxa3 : wX.heap.size ≤ w3.heap.size := HG3.out
  obtain ⟨wA3, hwA3, kA, hbA, hzA⟩ := box1 w3 #[.string s.t, .slice m1.a m1.l.length m1.c, .slice u1.a u1.l.length u1.c, .slice r1.a r1.l.length r1.c, .bool s.o, .slice g1.a g1.l.length g1.c] 31
  have KA4 := hid (KA3.out.onto hbA)
  have RF4 := hid (RF3.out.later hbA)
  have HB4 := hid (HB3.out.trans (hbA.mono HB3.out.size))
  have HG4 := hid (Nat.le_trans HG3.out hbA.size)
  have HW4 := hid (HW3.out.trans (hbA.mono HW3.out.size))
  have KD4 := hid kA
  have hzz3 : w3.heap.size < wA3.heap.size := by omega
  have HZD := hid hzz3
  clear kA hbA hzA hzz3 KA3 RF3 HB3 HG3
  obtain ⟨zA4_0, zA4_1, zA4_2, zA4_3, zA4_4, zA4_5, fA4_0, fA4_1, fA4_2, fA4_3, fA4_4, fA4_5⟩ := KA4.out.all6
  obtain ⟨zD4_0, zD4_1, zD4_2, zD4_3, zD4_4, zD4_5, fD4_0, fD4_1, fD4_2, fD4_3, fD4_4, fD4_5⟩ := KD4.out.all6
  have HCH4 := hid (show Below w2.heap.size w2 wA3 by rw [← hwA3]; exact HCH3.out.alloc HCH3.out.size _)
  have kD : Blk (wA3.setCell ⟨w3.heap.size, 0, none⟩ (.string ⟨#[]⟩)) (w3.heap.size) #[.string ⟨#[]⟩, .slice m1.a m1.l.length m1.c, .slice u1.a u1.l.length u1.c, .slice r1.a r1.l.length r1.c, .bool s.o, .slice g1.a g1.l.length g1.c] 31 := (KD4.out.set 0 _)
  have kA : Blk (wA3.setCell ⟨w3.heap.size, 0, none⟩ (.string ⟨#[]⟩)) (w.heap.size) #[.string s.t, .slice s.m.a s.m.l.length s.m.c, .slice s.u.a s.u.l.length s.u.c, .slice s.r.a s.r.l.length s.r.c, .bool s.o, .slice s.g.a s.g.l.length s.g.c] 31 := (KA4.out.other ⟨w3.heap.size, 0, none⟩ (by show w3.heap.size ≠ w.heap.size; omega) _)
  have ap : Apart [w.heap.size, w3.heap.size] wA3 (wA3.setCell ⟨w3.heap.size, 0, none⟩ (.string ⟨#[]⟩)) := (Apart.refl [w.heap.size, w3.heap.size] wA3).setCell (p := ⟨w3.heap.size, 0, none⟩) (.inl (by simp)) _
  have rF := RF4.out.apart ap
  have hB := ((HB4.out.setCell (p := ⟨w3.heap.size, 0, none⟩) (by show w.heap.size ≤ w3.heap.size; omega) _) : Below w.heap.size w (wA3.setCell ⟨w3.heap.size, 0, none⟩ (.string ⟨#[]⟩)))
  have hz : (wA3.setCell ⟨w3.heap.size, 0, none⟩ (.string ⟨#[]⟩)).heap.size = wA3.heap.size := by simp
  obtain ⟨v5, hv5⟩ : ∃ V, (wA3.setCell ⟨w3.heap.size, 0, none⟩ (.string ⟨#[]⟩)) = V := ⟨_, rfl⟩
  rw [hv5] at kA kD rF hB hz
  have KA5 := hid kA
  have KD5 := hid kD
  have RF5 := hid rF
  have HB5 := hid hB
  have HG5 := hid (Nat.le_trans HG4.out (Nat.le_of_eq hz.symm))
  clear kA kD rF hB hz ap KA4 KD4 RF4 HB4 HG4
  obtain ⟨zA5_0, zA5_1, zA5_2, zA5_3, zA5_4, zA5_5, fA5_0, fA5_1, fA5_2, fA5_3, fA5_4, fA5_5⟩ := KA5.out.all6
  obtain ⟨zD5_0, zD5_1, zD5_2, zD5_3, zD5_4, zD5_5, fD5_0, fD5_1, fD5_2, fD5_3, fD5_4, fD5_5⟩ := KD5.out.all6
  have HRZ := hid (HR2.out.later (show Below w2.heap.size w2 v5 by rw [← hv5]; exact HCH4.out.setCell (p := ⟨w3.heap.size, 0, none⟩) HCH3.out.size _))
  obtain ⟨wE, hwE, kE, hbE, hzE⟩ := box1 v5 #[.bool true, .pointer (some ⟨rb, 0, none⟩), .string ⟨#[]⟩, .slice m1.a m1.l.length m1.c, .slice u1.a u1.l.length u1.c, .slice r1.a r1.l.length r1.c, .bool s.o, .slice g1.a g1.l.length g1.c] 54
  have KE := hid kE; have HBE := hid hbE
  clear kE hbE hzE
  go_wp2
  go_ret2
  have hD := HD.out
  refine ⟨v5.heap.size, ⟨s.t, m1, u1, r1, s.o, g1⟩, rb, p, L, rfl, ⟨KE.out, HRZ.out.later HBE.out, (RF5.out.wide (S' := [v5.heap.size]) (fun i hi => .inr (by rw [List.mem_singleton.1 hi]; exact Nat.le_refl _))).later HBE.out |> fun h => ⟨h.m, h.u, h.r, h.g⟩, HML.out.1, HML.out.2, ?_⟩, ?_, HB5.out.size, HB5.out.trans (HBE.out.mono HB5.out.size)⟩
  · rw [show Sta.d ⟨s.t, m1, u1, r1, s.o, g1⟩ = s.d by unfold Sta.d; simp only [hD.1, hD.2.1, hD.2.2.1, hD.2.2.2]]
    exact HI.out
  · unfold Sta.d
    simp only [hD.1, hD.2.1, hD.2.2.1, hD.2.2.2]
end Go.Proofs.YtfiobemeogaaiaaGreat
namespace Go.Proofs.YtfiobemeogaaiaaGreat
open Lib (hid)
open Go.RowKit
set_option linter.unusedVariables false
set_option linter.unusedSimpArgs false
def staZ : Sta := ⟨⟨#[]⟩, ⟨none, [], 0⟩, ⟨none, [], 0⟩, ⟨none, [], 0⟩, false, ⟨none, [], 0⟩⟩
theorem staZ_d : staZ.d = stD0 := rfl
theorem staZ_in (w : World) : StaIn w staZ := ⟨KPcs.empty w, SPcs.empty w, SPcs.empty w, EPcs.empty w⟩
theorem staZ_few : StaF staZ := ⟨by decide, by decide, by decide, by decide, fun x hx => absurd hx (by simp [staZ])⟩
theorem staZ_z : StaZ staZ := ⟨by decide, by decide, fun x hx => absurd hx (by simp [staZ]), by decide, by decide, fun x hx => by
  have : x = ⟨none, [], 0⟩ := by simpa [Sta.rows, staZ] using hx
  subst this
  exact ⟨by decide, fun y hy => absurd hy (by simp)⟩⟩
theorem staZ_right : rightP staZ = true := (inv_iff staZ).2 inv_nil
set_option maxRecDepth 100000 in
set_option maxHeartbeats 800000 in
theorem ed_new (w : World) : Calls Tryz.prog 10 #[] w fun e w' => ∃ (b : Nat) (s' : Sta) (rb : Nat) (p : Option Addr) (L : List ByteArray), e = .returned (.pointer (some ⟨b, 0, none⟩)) ∧ IsEd w' b s' rb p L ∧ s'.d = stD0 ∧ w.heap.size ≤ b ∧ Below w.heap.size w w' := by
  have cl := ed_load_yes staZ w (staZ_in w) staZ_z staZ_right
  rw [staZ_d] at cl
  have CL := hid (show Calls Tryz.prog 22 #[.agg #[.string ⟨#[]⟩, .slice none 0 0, .slice none 0 0, .slice none 0 0, .bool false, .slice none 0 0]] w _ from cl)
  clear cl
  go_enter Tryz.func10, Tryz.ntmps10
  go_wp2_with fail
  refine CL.out.mono ?_; rintro e w1 ⟨b, s1, rb, p, L, rfl, hi, hd, hb, hbel⟩
  have H := hid (And.intro hi (And.intro hd (And.intro hb hbel)))
  clear hi hd hb hbel
  go_wp2
  go_ret
  exact ⟨b, s1, rb, p, L, rfl, H.out.1, H.out.2.1, H.out.2.2.1, H.out.2.2.2⟩
def lvA : StaD × Int := doD stD0 1 0 0 sAb
def lvB : StaD × Int := doD lvA.1 2 0 1 ⟨#[]⟩
def lvC : StaD × Int := doD lvB.1 5 0 0 ⟨#[]⟩
theorem lvA_e : lvA.2 = 0 := by decide +kernel
theorem lvB_e : lvB.2 = 0 := by decide +kernel
theorem lvC_e : lvC.2 = 0 := by decide +kernel
theorem lvC_t : lvC.1.t = sAb := by decide +kernel
theorem lvC_u : lvC.1.u.length = 1 := by decide +kernel
theorem lvC_r : lvC.1.r.length = 1 := by decide +kernel
theorem IsEd.nw {w : World} {b : Nat} {s : Sta} {rb : Nat} {p : Option Addr} {L : List ByteArray} (h : IsEd w b s rb p L) : Nw w (some ⟨b, 0, none⟩) (edN true (some ⟨rb, 0, none⟩) ⟨#[]⟩ s.m.a s.m.l.length s.m.c s.u.a s.u.l.length s.u.c s.r.a s.r.l.length s.r.c s.o s.g.a s.g.l.length s.g.c) := Nw.some h.blk
theorem IsEd.state {w : World} {b : Nat} {s : Sta} {rb : Nat} {p : Option Addr} {L : List ByteArray} (h : IsEd w b s rb p L) (S : List Nat) (hS : InS S w) :
    Calls Tryz.prog 17 #[.pointer (some ⟨b, 0, none⟩)] w fun x w' => ∃ s' : Sta, x = .returned s'.v ∧ s'.d = s.d ∧ StaO S w' s' ∧ Below w.heap.size w w' := ed_state h.nw h.rope h.rows.in h.inv.few S hS
theorem to_low {b : Nat} {w w1 W : World} (hb : Below w.heap.size w w1) (hlt : w.heap.size ≤ b) (ha : Apart [b] w1 W) : Below w.heap.size w W :=
  hb.trans (ha.to_below (fun x hx => by rw [List.mem_singleton.1 hx]; exact hlt) hb.size)
set_option maxRecDepth 100000 in
set_option maxHeartbeats 1600000 in
theorem lives26_any (w : World) : Calls Tryz.prog 9 #[] w fun e w' => e = .returned (.bool true) ∧ Below w.heap.size w w' := by
  have CN := hid (ed_new w)
  go_enter Tryz.func9, Tryz.ntmps9
  go_wp2_with fail
  refine CN.out.mono ?_; rintro e w1 ⟨b, s1, r1, p1, L1, rfl, hi, hd, hb, hbel⟩
  have c1 := ed_do_any hi 1 0 0 sAb (by unfold i64P; omega) (by decide)
  rw [hd, show doD stD0 1 0 0 sAb = lvA from rfl] at c1
  unfold RetEd at c1
  rw [lvA_e] at c1
  have C1 := hid (show Calls Tryz.prog 12 #[.pointer (some ⟨b, 0, none⟩), .agg #[.int .i64 1, .int .i64 0, .int .i64 0, .string ⟨#[97, 98]⟩]] w1 _ from c1)
  have HB := hid (And.intro hb hbel)
  clear c1 hi hd hb hbel
  go_wp2_with fail
  refine C1.out.mono ?_; rintro e w2 ⟨s2, r2, p2, L2, rfl, hi, hd, ha⟩
  have c1 := ed_do_any hi 2 0 1 ⟨#[]⟩ (by unfold i64P; omega) (by decide)
  rw [hd, show doD lvA.1 2 0 1 ⟨#[]⟩ = lvB from rfl] at c1
  unfold RetEd at c1
  rw [lvB_e] at c1
  have C2 := hid (show Calls Tryz.prog 12 #[.pointer (some ⟨b, 0, none⟩), .agg #[.int .i64 2, .int .i64 0, .int .i64 1, .string ⟨#[]⟩]] w2 _ from c1)
  have HB2 := hid (to_low HB.out.2 HB.out.1 ha)
  clear c1 hi hd ha C1
  go_wp2_with fail
  refine C2.out.mono ?_; rintro e w3 ⟨s3, r3, p3, L3, rfl, hi, hd, ha⟩
  have c1 := ed_do_any hi 5 0 0 ⟨#[]⟩ (by unfold i64P; omega) (by decide)
  rw [hd, show doD lvB.1 5 0 0 ⟨#[]⟩ = lvC from rfl] at c1
  unfold RetEd at c1
  rw [lvC_e] at c1
  have C3 := hid (show Calls Tryz.prog 12 #[.pointer (some ⟨b, 0, none⟩), .agg #[.int .i64 5, .int .i64 0, .int .i64 0, .string ⟨#[]⟩]] w3 _ from c1)
  have HB3 := hid (to_low HB2.out HB.out.1 ha)
  clear c1 hi hd ha C2
  go_wp2_with fail
  refine C3.out.mono ?_; rintro e w4 ⟨s4, r4, p4, L4, rfl, hi, hd, ha⟩
  have CS := hid (hi.state [] (fun i hi => absurd hi (by simp)))
  have HB4 := hid (to_low HB3.out HB.out.1 ha)
  have HD := hid hd
  clear hi hd ha C3
  go_wp2_with fail
  refine CS.out.mono ?_; rintro e w5 ⟨s5, rfl, hd5, hs5, hb5⟩
  have HB5 := hid (HB4.out.trans (hb5.mono HB4.out.size))
  have hd6 : s5.d = lvC.1 := hd5.trans HD.out
  have e1 : s5.t = ⟨#[97, 98]⟩ := (congrArg StaD.t hd6).trans lvC_t
  have e2 : s5.u.l.length = 1 := by rw [← lsP_len]; exact (congrArg (fun x => x.u.length) hd6).trans lvC_u
  have e3 : s5.r.l.length = 1 := by rw [← lsP_len]; exact (congrArg (fun x => x.r.length) hd6).trans lvC_r
  obtain ⟨t5, m5, ⟨ua, ul, uc⟩, ⟨ra, rl, rc⟩, o5, g5⟩ := s5
  replace e1 : t5 = ⟨#[97, 98]⟩ := e1
  subst e1
  dsimp only at e2 e3
  clear hd5 hs5 hb5 hd6 CS HD
  go_wp2
  go_ret
  exact ⟨by first | rfl | simp, HB5.out.alloc HB5.out.size _⟩
def fewO (l : List Opr) : Bool := decide (l.length ≤ 60) && l.all fun x => decide (x.s.size ≤ 600)
theorem fewO_iff {l : List Opr} : fewO l = true ↔ l.length ≤ 60 ∧ ∀ x ∈ l, x.s.size ≤ 600 := by unfold fewO; simp
set_option maxRecDepth 100000 in
set_option maxHeartbeats 1600000 in
theorem few26_any (a : Option Addr) (l : List Opr) (c : Nat) (w : World) (hr : Oprs w (· < w.heap.size) a l) (hl : l.length ≤ maxLen) :
    Calls Tryz.prog 8 #[.slice a l.length c] w fun e w' => e = .returned (.bool (fewO l)) ∧ w = w' := by
  obtain ⟨n, hn⟩ : ∃ n, l.length = n := ⟨_, rfl⟩
  unfold maxLen at hl
  by_cases h1 : 60 < n
  · have e : fewO l = false := by unfold fewO; rw [decide_eq_false (by omega)]; rfl
    have t1 : (60 : Int) < (n : Int) := by omega
    rw [e, hn]
    clear e hr hl hn
    go_enter Tryz.func8, Tryz.ntmps8
    go_wp2
    go_ret
    exact ⟨rfl, rfl⟩
  · have t1 : ¬ (60 : Int) < (n : Int) := by omega
    obtain ⟨R, hR⟩ : ∃ R, fewO l = R := ⟨_, rfl⟩
    have HR := hid hr; have HN := hid hn; have HQ := hid hR
    rw [hn, hR]
    clear hr hn hR hl
    go_enter Tryz.func8, Tryz.ntmps8
    go_wp2
    go_loopw [3] (fun i wr => ∃ k : Nat, k ≤ n ∧ i = .int .i64 k ∧ (∀ x ∈ l.take k, x.s.size ≤ 600) ∧ w = wr) (fun i _ => n - (intOf i).toNat)
    case atStart => exact ⟨0, Nat.zero_le _, rfl, fun x hx => absurd hx (by simp), rfl⟩
    case round =>
      obtain ⟨k, hk, rfl, hall, rfl⟩ := hrel
      by_cases hlt : k < n
      · have hkl : k < l.length := by rw [HN.out]; exact hlt
        obtain ⟨ad, rfl, hab, q0, q1, q2, q3⟩ := HR.out k hkl
        have b0 : (0 : Int) ≤ (k : Int) := by omega
        have b1 : (k : Int) < (n : Int) := by omega
        obtain ⟨y, hy⟩ : ∃ y, l[k] = y := ⟨_, rfl⟩
        rw [hy] at q0 q1 q2 q3
        by_cases h6 : 600 < y.s.size
        · have t2 : (600 : Int) < (y.s.size : Int) := by omega
          have e : R = false := by
            rw [← HQ.out]
            cases hf : fewO l
            · rfl
            · have := (fewO_iff.1 hf).2 (l[k]) (List.getElem_mem hkl)
              rw [hy] at this
              omega
          subst e
          clear hall hab hy q0 q1 q2
          go_wp2
          go_ret
          exact ⟨rfl, rfl⟩
        · have t2 : ¬ (600 : Int) < (y.s.size : Int) := by omega
          have HA := hid (show ∀ x ∈ l.take (k + 1), x.s.size ≤ 600 from fun x hx => by
            rw [List.take_add_one, List.getElem?_eq_getElem hkl, hy] at hx
            rcases List.mem_append.1 hx with hx | hx
            · exact hall x hx
            · have : x = y := by simpa using hx
              rw [this]; omega)
          clear hall hab hy q0 q1 q2
          go_wp2
          go_roundw
          case rel => exact ⟨k + 1, by omega, by go_num, HA.out, by trivial⟩
          case measure => simp [intOf]; omega
      · obtain rfl : k = n := by omega
        rw [List.take_of_length_le (by rw [HN.out]; exact Nat.le_refl _)] at hall
        have e : R = true := by rw [← HQ.out]; exact fewO_iff.2 ⟨by rw [HN.out]; omega, hall⟩
        subst e
        clear hall
        go_wp2
        go_ret
        exact ⟨rfl, rfl⟩
end Go.Proofs.YtfiobemeogaaiaaGreat
