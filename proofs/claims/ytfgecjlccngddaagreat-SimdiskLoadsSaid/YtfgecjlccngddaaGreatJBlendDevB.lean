/-
  Joined: BlendDev2.
-/
import Derived.Test.YtfgecjlccngddaaGreatJBlendDev
import Derived.Lib.SlBuf
import Derived.WalkMore
import Derived.Laws.CopyOwn
namespace Go.Proofs.YtfgecjlccngddaaGreat
set_option linter.unusedSimpArgs false
set_option linter.unusedVariables false
open Go.RowKit

theorem byte_one : (Tryz.prog.info? 5).map (·.size) = some 1 := by kernel_rfl
/-- copy(row[off:], s) in a row of bytes that is known whole. -/
theorem copy_row (w : World) (g M off : Nat) (l : List UInt8) (T : TypeId) (hg : w.heap[g]? = some (.cells (bcs l) T (0, 0))) (hl : l.length = M) (s : ByteArray) (hfit : off + s.size ≤ M) (a b : Nat) (ha : s.size ≤ a) :
    (Builtin.copy_ #[183, 9] 3 #[.slice (some ⟨g, off, none⟩) a b, .string s]).run Tryz.prog w =
      .ok (.int .i64 s.size) (w.setRow g (bcs (l.take off ++ s.data.toList ++ l.drop (off + s.size)))) := by
  have hsz : (bcs l).size = l.length := by simp [bcs, Lib.byteCells]
  have h := Lib.run_copy_row_string (P := Tryz.prog) w 183 9 3 5 g off a b s (bcs l) T Tryz.underlying183 byte_one hg ha (by omega)
  rw [h]
  unfold bcs Lib.byteCells
  simp [List.map_take, List.map_drop]
  rfl

theorem mixUs_eq2 (o n c : ByteArray) : mixUs o n c = (unlL o.data.toList n.data.toList).length := mixL_used _ _ _
theorem row_back (w : World) (g : Nat) (l r : List UInt8) (cap : Nat) (T : TypeId) (hg : w.heap[g]? = some (.cells (bcs (l ++ r)) T (0, 0))) :
    (convert 183 9 (.slice (some ⟨g, 0, none⟩) l.length cap)).run Tryz.prog w = .ok (.string ⟨l.toArray⟩) w := by
  refine run_convert_bytes_back w 183 9 5 ⟨g, 0, none⟩ cap l Tryz.underlying183 Tryz.underlying5 Tryz.underlying9 fun j hj => ?_
  have hplain : (⟨g, 0, none⟩ : Addr).add j = ⟨g, 0 + j, none⟩ := by unfold Addr.add; split <;> simp_all
  rw [hplain, Nat.zero_add]
  have hb : (bcs (l ++ r))[j]? = some (.int .u8 ((l[j].toNat : Nat) : Int)) := by
    unfold bcs Lib.byteCells
    simp [hj, List.getElem?_append_left]
  simp [World.cell?, hg, hb]
theorem roomL_zero (o n c : List UInt8) (M : Nat) : roomL o n c M 0 = List.replicate M 0 := by simp [roomL, mixK]

theorem mix_case (o n c : ByteArray) (M k : Nat) (hM : max o.size n.size = M) (hk : k < cntN M) (L : List Nat) (hL : unlL o.data.toList n.data.toList = L) :
    ((slS n k).data.toList = pk o.data.toList n.data.toList c.data.toList k (mixU o n c k) ∧ mixU o n c (k + 1) = mixU o n c k ∧ (L.length ≤ mixU o n c k ∨ ∃ h : mixU o n c k < L.length, k < L[mixU o n c k]'h)) ∨
      ((leftS (slS o k) (slS n k) (chN c.data.toList (mixU o n c k))).data.toList = pk o.data.toList n.data.toList c.data.toList k (mixU o n c k) ∧ mixU o n c (k + 1) = mixU o n c k + 1 ∧ ∃ h : mixU o n c k < L.length, L[mixU o n c k]'h = k) := by
  subst hL
  have hla : o.data.toList.length = o.size := by simp
  have hlb : n.data.toList.length = n.size := by simp
  have hk' : k < max (cntN o.data.toList.length) (cntN n.data.toList.length) := by rw [hla, hlb, ← cnt_max, hM]; exact hk
  have hu : mixU o n c k = (unl o.data.toList n.data.toList k).length := mixK_used _ _ _ _
  by_cases he : slS o k = slS n k
  · refine .inl ⟨by rw [← he]; exact pk_0 o n c k he, mixU_same o n c k he, ?_⟩
    by_cases hl : mixU o n c k < (unlL o.data.toList n.data.toList).length
    · refine .inr ⟨hl, ?_⟩
      have := unl_not o.data.toList n.data.toList k _ hk' ((slS_eq o n k).1 he) (by rw [← hu]; exact hl)
      simp only [hu]; exact this
    · exact .inl (by omega)
  · refine .inr ⟨?_, mixU_more o n c k he, ?_⟩
    · unfold leftS
      by_cases h1 : chN c.data.toList (mixU o n c k) = 1
      · rw [if_pos h1]; exact pk_1 o n c k he h1
      · rw [if_neg h1]
        by_cases h2 : chN c.data.toList (mixU o n c k) = 2
        · rw [if_pos h2]; exact pk_2 o n c k he h2
        · rw [if_neg h2]; exact pk_3 o n c k he h1 h2
    · obtain ⟨hl, h⟩ := unl_here o.data.toList n.data.toList k _ hk' (fun g => he ((slS_eq o n k).2 g))
      refine ⟨by rw [hu]; exact hl, ?_⟩
      simp only [hu]; exact h
theorem room_case (o n c : ByteArray) (M k : Nat) (hM : max o.size n.size = M) (x : ByteArray) (hx : x.data.toList = pk o.data.toList n.data.toList c.data.toList k (mixU o n c k)) :
    (x.size = 0 → roomL o.data.toList n.data.toList c.data.toList M (k + 1) = roomL o.data.toList n.data.toList c.data.toList M k ∧ (mixK o.data.toList n.data.toList c.data.toList (k + 1)).1.length = (mixK o.data.toList n.data.toList c.data.toList k).1.length) ∧
      (x.size ≠ 0 → roomL o.data.toList n.data.toList c.data.toList M (k + 1) = (roomL o.data.toList n.data.toList c.data.toList M k).take (32 * k) ++ x.data.toList ++ (roomL o.data.toList n.data.toList c.data.toList M k).drop (32 * k + x.size) ∧
        (mixK o.data.toList n.data.toList c.data.toList (k + 1)).1.length = 32 * k + x.size ∧ 32 * k + x.size ≤ M) := by
  have hla : o.data.toList.length = o.size := by simp
  have hlb : n.data.toList.length = n.size := by simp
  have hlx : x.data.toList.length = x.size := by simp
  constructor
  · intro h
    refine roomL_none _ _ _ _ _ ?_
    have : pk o.data.toList n.data.toList c.data.toList k (mixU o n c k) = [] := by rw [← hx]; exact List.eq_nil_of_length_eq_zero (by omega)
    exact this
  · intro h
    have hne : pk o.data.toList n.data.toList c.data.toList k (mixK o.data.toList n.data.toList c.data.toList k).2 ≠ [] := by
      show pk o.data.toList n.data.toList c.data.toList k (mixU o n c k) ≠ []
      rw [← hx]; intro g; rw [g] at hlx; exact h hlx.symm
    have := roomL_some o.data.toList n.data.toList c.data.toList M k (by rw [hla, hlb]; exact hM) hne
    have e : pk o.data.toList n.data.toList c.data.toList k (mixK o.data.toList n.data.toList c.data.toList k).2 = x.data.toList := hx.symm
    rw [e, hlx] at this
    exact this

set_option maxRecDepth 100000 in
set_option maxHeartbeats 1600000 in
theorem pmix_any (o n c : ByteArray) (ho : o.size ≤ 4294967296) (hn : n.size ≤ 4294967296) (w : World) :
    Calls Tryz.prog 103 #[.string o, .string n, .string c] w (RetMix w (mixOf o n c) (mixUs o n c)) := by
  have hla : o.data.toList.length = o.size := by simp
  have hlb : n.data.toList.length = n.size := by simp
  have cu := punlike_any o n ho hn
  obtain ⟨L, hL⟩ : ∃ L, unlL o.data.toList n.data.toList = L := ⟨_, rfl⟩
  rw [hL] at cu
  obtain ⟨M, hM⟩ : ∃ M, max o.size n.size = M := ⟨_, rfl⟩
  have hM4 : M ≤ 4294967296 := by omega
  have cc := pcount_any M (by omega) (by omega)
  rw [cntI_nat] at cc
  have mk : ∀ W : World, (Instr.makeSlice 183 (.int .i64 (max (o.size : Int) (n.size : Int))) (.int .i64 (max (o.size : Int) (n.size : Int)))).run Tryz.prog W = .ok (.slice (some ⟨W.heap.size, 0, none⟩) M M) (W.alloc (.cells (zs M) 5)) := fun W => make_zeros _ _ (by omega) (by omega) W
  have CU := Lib.hid cu; have CC := Lib.hid cc; have HL := Lib.hid hL; have HM := Lib.hid hM
  clear cu cc hL hM
  go_enter Tryz.func103, Tryz.ntmps103
  go_wp2
  go_step3
  go_wp2_with fail
  refine (CU.out _).mono ?_
  rintro e w1 ⟨ad, cp, rfl, hnum, hb1⟩
  go_wp2
  go_step3
  go_wp2_with (go_at_call 95; (with_reducible refine (CC.out _).mono ?_); rintro e w' ⟨rfl, rfl⟩)
  obtain ⟨g, hg⟩ : ∃ g, w1.heap.size = g := ⟨_, rfl⟩
  have hz0 : (w1.alloc (.cells (zs M) 5)).heap[g]? = some (.cells (bcs (roomL o.data.toList n.data.toList c.data.toList M 0)) 5 (0, 0)) := by
    rw [← hg, bcs_zeros, roomL_zero]; exact heap_alloc_new w1 _
  have hb2 : Below w.heap.size w (w1.alloc (.cells (zs M) 5)) := hb1.alloc hb1.size _
  have hn2 : Nums (w1.alloc (.cells (zs M) 5)) g ad L := by rw [← hg]; exact hnum.below ((Below.refl _ _).alloc (Nat.le_refl _) _)
  have hwg : w.heap.size ≤ g := by have := hb1.size; omega
  have hgw : g < (w1.alloc (.cells (zs M) 5)).heap.size := by simp; omega
  rw [hg]
  obtain ⟨w2, hw2⟩ : ∃ w2, w1.alloc (.cells (zs M) 5) = w2 := ⟨_, rfl⟩
  rw [hw2] at hz0 hb2 hn2 hgw ⊢
  have HZ0 := Lib.hid hz0; have HN2 := Lib.hid hn2
  clear hg hw2 hz0 hn2 hb1 hnum mk CC CU
  go_loopw [10, 11, 27] (fun e u i wr => ∃ k : Nat, k ≤ cntN M ∧ i = .int .i64 k ∧ e = .int .i64 (mixK o.data.toList n.data.toList c.data.toList k).1.length ∧ u = .int .i64 (mixU o n c k : Nat) ∧ Hid (wr.heap[g]? = some (.cells (bcs (roomL o.data.toList n.data.toList c.data.toList M k)) 5 (0, 0))) ∧ Hid (Nums wr g ad L) ∧ Hid (Below w.heap.size w wr) ∧ Hid (g < wr.heap.size)) (fun _ _ i _ => cntN M - (intOf i).toNat)
  case atStart => exact ⟨0, Nat.zero_le _, rfl, rfl, rfl, HZ0, HN2, hb2, hgw⟩
  case round =>
    obtain ⟨k, hk, rfl, rfl, rfl, hroom, hnums, hbel, hgr⟩ := hrel
    clear HZ0 HN2 hb2 hgw
    by_cases hlt : k < cntN M
    · have hcase := mix_case o n c M k HM.out hlt L HL.out
      have hroomc := fun x => room_case o n c M k HM.out x
      have s1 := pslice_any o ho k
      have s2 := pslice_any n hn k
      have ch := pchoice_any c (mixU o n c k)
      have z2 : (slS n k).size ≤ 32 := by rw [slS_size]; exact Nat.min_le_left _ _
      have hul := mixU_le o n c k
      have hkm : 32 * k < M := by unfold cntN at hlt; omega
      obtain ⟨p, hp⟩ : ∃ p, slS o k = p := ⟨_, rfl⟩
      obtain ⟨q, hq⟩ : ∃ p, slS n k = p := ⟨_, rfl⟩
      obtain ⟨u, hu⟩ : ∃ u, mixU o n c k = u := ⟨_, rfl⟩
      obtain ⟨d, hd⟩ : ∃ d, chN c.data.toList u = d := ⟨_, rfl⟩
      obtain ⟨R, hR⟩ : ∃ R, roomL o.data.toList n.data.toList c.data.toList M k = R := ⟨_, rfl⟩
      obtain ⟨E, hE⟩ : ∃ E, (mixK o.data.toList n.data.toList c.data.toList k).1.length = E := ⟨_, rfl⟩
      rw [hp] at s1
      rw [hq] at s2 z2
      rw [hu] at hcase hroomc ch hul ⊢
      rw [hp, hq, hd] at hcase
      rw [hd] at ch
      rw [hR] at hroomc hroom
      rw [hE] at hroomc ⊢
      have lf := pleft_any p q z2 d
      have S1 := Lib.hid s1; have S2 := Lib.hid s2; have CH := Lib.hid ch; have LF := Lib.hid lf
      have HU := Lib.hid hu; have HR := Lib.hid hR; have HE := Lib.hid hE; have HC := Lib.hid hroomc
      clear s1 s2 ch lf hp hq hu hd hR hE hroomc
      rcases hcase with ⟨hx, hu2, hl | ⟨hl, hl2⟩⟩ | ⟨hx, hu2, hl, hl2⟩
      · have HU2 := Lib.hid hu2; clear hu2
        have h3 := HC.out _ hx
        clear HC hx LF CH S1
        go_wp2_with fail
        refine (S2.out _).mono ?_
        rintro e wa ⟨rfl, hba⟩
        have hgr2 := hgr.out
        have h1 := hba.size
        have hrm := (hba.block g hgr2).trans hroom.out
        have hnn : Nums wa g ad L := hnums.out.below (hba.mono (Nat.le_of_lt hgr2))
        have hbel2 : Below w.heap.size w wa := hbel.out.trans (hba.mono hbel.out.size)
        have hgr3 : g < wa.heap.size := by omega
        have HRM := Lib.hid hrm; have HNN := Lib.hid hnn; have HBL := Lib.hid hbel2; have HGR := Lib.hid hgr3
        clear hrm hnn hbel2 hgr3 h1 hba hgr2 hnums hroom hbel hgr
        have nz := isEmpty_size q
        by_cases h0 : q.size = 0
        · obtain ⟨e1, e2⟩ := h3.1 h0
          have ne : q.toList.isEmpty = true := by rw [nz]; simp [h0]
          have E1 := Lib.hid e1; have E2 := Lib.hid e2
          clear e1 e2 h3 nz h0
          go_wp2
          go_roundw
          case rel => exact ⟨k + 1, by omega, by go_num, by rw [E2.out], by rw [HU2.out], by rw [E1.out]; exact HRM.out, HNN.out, HBL.out, HGR.out⟩
          case measure => simp [intOf]; omega
        · obtain ⟨e1, e2, e3⟩ := h3.2 h0
          have ne : q.toList.isEmpty = false := by rw [nz]; simp [h0]
          have hRl : R.length = M := by rw [← HR.out]; exact roomL_len _ _ _ _ _ (by have := HM.out; simp; omega)
          have hcp := copy_row wa g M (k * 32) R 5 HRM.out hRl q (by omega) (M - k * 32) (M - k * 32) (by omega)
          obtain ⟨wd, hwd⟩ : ∃ wd, wa.setRow g (bcs (R.take (k * 32) ++ q.data.toList ++ R.drop (k * 32 + q.size))) = wd := ⟨_, rfl⟩
          rw [hwd] at hcp
          have r1 : wd.heap[g]? = some (.cells (bcs (R.take (32 * k) ++ q.data.toList ++ R.drop (32 * k + q.size))) 5 (0, 0)) := by
            rw [← hwd, show k * 32 = 32 * k by omega]; exact setRow_heap _ _ _ _ _ _ HRM.out
          have r2 : Below g wa wd := by rw [← hwd]; exact below_setRow (Below.refl _ _) (Nat.le_refl _) _
          have r3 := HNN.out.below r2
          have r4 : Below w.heap.size w wd := HBL.out.trans (r2.mono hwg)
          have r5 : g < wd.heap.size := by have := r2.size; have := HGR.out; omega
          have E1 := Lib.hid e1; have E2 := Lib.hid e2; have R1 := Lib.hid r1; have R3 := Lib.hid r3; have R4 := Lib.hid r4; have R5 := Lib.hid r5
          clear e1 e2 h3 nz h0 hRl hwd r1 r2 r3 r4 r5 HRM HNN HBL HGR
          go_wp2
          go_roundw
          case rel => exact ⟨k + 1, by omega, by go_num, by rw [E2.out]; go_num, by rw [HU2.out], by rw [E1.out]; exact R1.out, R3.out, R4.out, R5.out⟩
          case measure => simp [intOf]; omega
      · have HU2 := Lib.hid hu2; clear hu2
        have h3 := HC.out _ hx
        clear HC hx LF CH S1
        go_wp2_with fail
        refine (S2.out _).mono ?_
        rintro e wa ⟨rfl, hba⟩
        have hgr2 := hgr.out
        have h1 := hba.size
        have hrm := (hba.block g hgr2).trans hroom.out
        have hnn : Nums wa g ad L := hnums.out.below (hba.mono (Nat.le_of_lt hgr2))
        have hbel2 : Below w.heap.size w wa := hbel.out.trans (hba.mono hbel.out.size)
        have hgr3 : g < wa.heap.size := by omega
        obtain ⟨a, rfl, _, q0⟩ := hnn u hl
        obtain ⟨v, hv⟩ : ∃ v, L[u]'hl = v := ⟨_, rfl⟩
        rw [hv] at q0 hl2
        clear hv
        have hne : ((v : Int) == (k : Int)) = false := by simpa using (by omega : ¬ (v : Int) = k)
        clear hl2
        have HRM := Lib.hid hrm; have HNN := Lib.hid hnn; have HBL := Lib.hid hbel2; have HGR := Lib.hid hgr3
        clear hrm hnn hbel2 hgr3 h1 hba hgr2 hnums hroom hbel hgr
        have nz := isEmpty_size q
        by_cases h0 : q.size = 0
        · obtain ⟨e1, e2⟩ := h3.1 h0
          have ne : q.toList.isEmpty = true := by rw [nz]; simp [h0]
          have E1 := Lib.hid e1; have E2 := Lib.hid e2
          clear e1 e2 h3 nz h0
          go_wp2
          go_roundw
          case rel => exact ⟨k + 1, by omega, by go_num, by rw [E2.out], by rw [HU2.out], by rw [E1.out]; exact HRM.out, HNN.out, HBL.out, HGR.out⟩
          case measure => simp [intOf]; omega
        · obtain ⟨e1, e2, e3⟩ := h3.2 h0
          have ne : q.toList.isEmpty = false := by rw [nz]; simp [h0]
          have hRl : R.length = M := by rw [← HR.out]; exact roomL_len _ _ _ _ _ (by have := HM.out; simp; omega)
          have hcp := copy_row wa g M (k * 32) R 5 HRM.out hRl q (by omega) (M - k * 32) (M - k * 32) (by omega)
          obtain ⟨wd, hwd⟩ : ∃ wd, wa.setRow g (bcs (R.take (k * 32) ++ q.data.toList ++ R.drop (k * 32 + q.size))) = wd := ⟨_, rfl⟩
          rw [hwd] at hcp
          have r1 : wd.heap[g]? = some (.cells (bcs (R.take (32 * k) ++ q.data.toList ++ R.drop (32 * k + q.size))) 5 (0, 0)) := by
            rw [← hwd, show k * 32 = 32 * k by omega]; exact setRow_heap _ _ _ _ _ _ HRM.out
          have r2 : Below g wa wd := by rw [← hwd]; exact below_setRow (Below.refl _ _) (Nat.le_refl _) _
          have r3 := HNN.out.below r2
          have r4 : Below w.heap.size w wd := HBL.out.trans (r2.mono hwg)
          have r5 : g < wd.heap.size := by have := r2.size; have := HGR.out; omega
          have E1 := Lib.hid e1; have E2 := Lib.hid e2; have R1 := Lib.hid r1; have R3 := Lib.hid r3; have R4 := Lib.hid r4; have R5 := Lib.hid r5
          clear e1 e2 h3 nz h0 hRl hwd r1 r2 r3 r4 r5 HRM HNN HBL HGR
          go_wp2
          go_roundw
          case rel => exact ⟨k + 1, by omega, by go_num, by rw [E2.out]; go_num, by rw [HU2.out], by rw [E1.out]; exact R1.out, R3.out, R4.out, R5.out⟩
          case measure => simp [intOf]; omega
      · have HU2 := Lib.hid hu2; clear hu2
        have h3 := HC.out _ hx
        clear HC
        obtain ⟨x, hxx⟩ : ∃ x, leftS p q d = x := ⟨_, rfl⟩
        rw [hxx] at h3 LF
        clear hx hxx
        go_wp2_with fail
        refine (S2.out _).mono ?_
        rintro e wa ⟨rfl, hba⟩
        have hna : Nums wa g ad L := hnums.out.below (hba.mono (Nat.le_of_lt hgr.out))
        obtain ⟨a, rfl, _, q0⟩ := hna u hl
        rw [hl2] at q0
        go_wp2_with fail
        refine (S1.out _).mono ?_
        rintro e wb ⟨rfl, hbb⟩
        go_wp2_with fail
        refine (CH.out _).mono ?_
        rintro e _ ⟨rfl, rfl⟩
        go_wp2_with fail
        refine (LF.out _).mono ?_
        rintro e wc ⟨rfl, hbc⟩
        have hgr2 := hgr.out
        have h1 := hba.size
        have h2 := hbb.size
        have h3' := hbc.size
        have hbc2 : Below wr.heap.size wr wc := (hba.trans (hbb.mono h1)).trans (hbc.mono (by omega))
        have hrm := (hbc2.block g hgr2).trans hroom.out
        have hnn : Nums wc g (some a) L := hnums.out.below (hbc2.mono (Nat.le_of_lt hgr2))
        have hbel2 : Below w.heap.size w wc := hbel.out.trans (hbc2.mono hbel.out.size)
        have hgr3 : g < wc.heap.size := by omega
        have HRM := Lib.hid hrm; have HNN := Lib.hid hnn; have HBL := Lib.hid hbel2; have HGR := Lib.hid hgr3
        clear hrm hnn hbel2 hgr3 hbc2 h1 h2 h3' hba hbb hbc hgr2 q0 hnums hroom hbel hgr hl2 hna
        have nz := isEmpty_size x
        by_cases h0 : x.size = 0
        · obtain ⟨e1, e2⟩ := h3.1 h0
          have ne : x.toList.isEmpty = true := by rw [nz]; simp [h0]
          have E1 := Lib.hid e1; have E2 := Lib.hid e2
          clear e1 e2 h3 nz h0
          go_wp2
          go_roundw
          case rel => exact ⟨k + 1, by omega, by go_num, by rw [E2.out], by rw [HU2.out]; go_num, by rw [E1.out]; exact HRM.out, HNN.out, HBL.out, HGR.out⟩
          case measure => simp [intOf]; omega
        · obtain ⟨e1, e2, e3⟩ := h3.2 h0
          have ne : x.toList.isEmpty = false := by rw [nz]; simp [h0]
          have hRl : R.length = M := by rw [← HR.out]; exact roomL_len _ _ _ _ _ (by have := HM.out; simp; omega)
          have hcp := copy_row wc g M (k * 32) R 5 HRM.out hRl x (by omega) (M - k * 32) (M - k * 32) (by omega)
          obtain ⟨wd, hwd⟩ : ∃ wd, wc.setRow g (bcs (R.take (k * 32) ++ x.data.toList ++ R.drop (k * 32 + x.size))) = wd := ⟨_, rfl⟩
          rw [hwd] at hcp
          have r1 : wd.heap[g]? = some (.cells (bcs (R.take (32 * k) ++ x.data.toList ++ R.drop (32 * k + x.size))) 5 (0, 0)) := by
            rw [← hwd, show k * 32 = 32 * k by omega]; exact setRow_heap _ _ _ _ _ _ HRM.out
          have r2 : Below g wc wd := by rw [← hwd]; exact below_setRow (Below.refl _ _) (Nat.le_refl _) _
          have r3 := HNN.out.below r2
          have r4 : Below w.heap.size w wd := HBL.out.trans (r2.mono hwg)
          have r5 : g < wd.heap.size := by have := r2.size; have := HGR.out; omega
          have E1 := Lib.hid e1; have E2 := Lib.hid e2; have R1 := Lib.hid r1; have R3 := Lib.hid r3; have R4 := Lib.hid r4; have R5 := Lib.hid r5
          clear e1 e2 h3 nz h0 hRl hwd r1 r2 r3 r4 r5 HRM HNN HBL HGR
          go_wp2
          go_roundw
          case rel => exact ⟨k + 1, by omega, by go_num, by rw [E2.out]; go_num, by rw [HU2.out]; go_num, by rw [E1.out]; exact R1.out, R3.out, R4.out, R5.out⟩
          case measure => simp [intOf]; omega
    · obtain rfl : k = cntN M := by omega
      have hm : mixM o.data.toList n.data.toList = cntN M := by
        have := HM.out
        unfold mixM
        rw [← this, cnt_max]; simp
      have hlen : (mixK o.data.toList n.data.toList c.data.toList (cntN M)).1.length ≤ M := by
        have := mixK_max o.data.toList n.data.toList c.data.toList (cntN M)
        have h2 := HM.out
        simp at this; omega
      have husz : L.length = mixUs o n c := by rw [mixUs_eq2, HL.out]
      have hcv : (convert 183 9 (.slice (some ⟨g, 0, none⟩) (mixK o.data.toList n.data.toList c.data.toList (cntN M)).1.length M)).run Tryz.prog wr = .ok (.string (mixOf o n c)) wr := by
        have e : mixOf o n c = ⟨(mixK o.data.toList n.data.toList c.data.toList (cntN M)).1.toArray⟩ := by unfold mixOf; rw [hm]; rfl
        rw [e]
        exact row_back wr g _ _ M 5 hroom.out
      obtain ⟨E, hE⟩ : ∃ E, (mixK o.data.toList n.data.toList c.data.toList (cntN M)).1.length = E := ⟨_, rfl⟩
      rw [hE] at hcv hlen ⊢
      clear hE hm
      obtain ⟨out, hout⟩ : ∃ out, mixOf o n c = out := ⟨_, rfl⟩
      rw [hout] at hcv
      have HO := Lib.hid hout; have HS := Lib.hid husz
      clear hout husz hroom
      go_wp2
      rw [Exit.noGoto_ret]
      go_ret2
      refine ⟨?_, hbel.out⟩
      rw [HO.out, ← HS.out]
      rfl
end Go.Proofs.YtfgecjlccngddaaGreat
