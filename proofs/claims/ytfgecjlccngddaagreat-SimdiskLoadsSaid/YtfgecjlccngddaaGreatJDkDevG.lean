/-
  Joined: DkDev16.
-/
import Derived.Test.YtfgecjlccngddaaGreatJDkDevD
namespace Go.Proofs.YtfgecjlccngddaaGreat
set_option linter.unusedSimpArgs false
set_option linter.unusedVariables false
open Go.RowKit
set_option linter.unusedVariables false

/-- A copy in the midst of its making: its box, its map, its folder, its fuse; the tapes that are copied so far. -/
structure CpL (w : World) (r cb nm : Nat) (an af : Addr) (Sn Sf : List Nat) (ids : List Int) (D : Dsk) (todo : Int → Bool) (blk : Int → Nat) (wr : World) : Prop where
  box : Blk wr cb (dkBox D nm an af D.tp.length) 67
  map : TMap wr nm (ids.filter fun i => !todo i) blk
  fold : IsFold wr Sn an D.L
  fuse : IsFuse wr Sf af D.fu
  taps : ∀ i ∈ ids, todo i = false → Tap wr (blk i) (D.t i).k (D.t i).n ∧ r < blk i
  inj : ∀ i ∈ ids, ∀ j ∈ ids, todo i = false → todo j = false → blk i = blk j → i = j
  bel : Below w.heap.size w wr
  c1 : cb < r
  c2 : nm < r
  c3 : ∀ b ∈ Sn, b < r
  c4 : ∀ b ∈ Sf, b < r
  c5 : w.heap.size ≤ r
  c6 : nm ∉ Sn
  c7 : nm ∉ Sf
  c8 : cb ∉ Sn
  c9 : cb ∉ Sf
  c10 : ∀ b ∈ Sn, b ∉ Sf
  c11 : w.heap.size ≤ nm ∧ w.heap.size ≤ cb ∧ (∀ b ∈ Sn, w.heap.size ≤ b) ∧ ∀ b ∈ Sf, w.heap.size ≤ b
theorem CpL.turn {w wr wy : World} {r cb nm : Nat} {an af : Addr} {Sn Sf : List Nat} {ids : List Int} {D : Dsk} {todo : Int → Bool} {blk : Int → Nat} (h : CpL w r cb nm an af Sn Sf ids D todo blk wr) (ha : Apart [r] wr wy) : CpL w r cb nm an af Sn Sf ids D todo blk wy := by
  have no : ∀ b, b ≠ r → b ∉ [r] := fun b hb g => hb (List.mem_singleton.1 g)
  refine { h with box := (ha.block cb h.box.lt (no _ (Nat.ne_of_lt h.c1))).trans h.box, map := h.map.keep (ha.block nm h.map.lt (no _ (Nat.ne_of_lt h.c2))), fold := h.fold.kept ha fun b hb => no b (Nat.ne_of_lt (h.c3 b hb)), fuse := h.fuse.kept ha fun b hb => no b (Nat.ne_of_lt (h.c4 b hb)), taps := fun i hi ht => ?_, bel := h.bel.trans (ha.to_below (fun b hb => by rw [List.mem_singleton.1 hb]; exact h.c5) h.bel.size) }
  obtain ⟨h1, h2⟩ := h.taps i hi ht
  exact ⟨Tap.apart h1 ha (no _ (Nat.ne_of_gt h2)), h2⟩
theorem CpL.onto {w wr wy : World} {r cb nm : Nat} {an af : Addr} {Sn Sf : List Nat} {ids : List Int} {D : Dsk} {todo : Int → Bool} {blk : Int → Nat} (h : CpL w r cb nm an af Sn Sf ids D todo blk wr) (hb : Below wr.heap.size wr wy) : CpL w r cb nm an af Sn Sf ids D todo blk wy :=
  h.turn (.of_below hb)
/-- One tape more is copied. -/
theorem CpL.step {w wr wy : World} {r cb nm : Nat} {an af : Addr} {Sn Sf : List Nat} {ids : List Int} {D : Dsk} {todo : Int → Bool} {blk : Int → Nat} (h : CpL w r cb nm an af Sn Sf ids D todo blk wr) {x : Int} (hx : x ∈ ids) (htx : todo x = true) {t : Nat}
    (ht : Tap wr t (D.t x).k (D.t x).n) (hr : r < t) (hfr : ∀ i ∈ ids, todo i = false → blk i ≠ t)
    (hm : TMap wy nm (ids.filter fun i => !(todo i && !decide (i = x))) (updB blk x t)) (ha : Apart [nm] wr wy) : CpL w r cb nm an af Sn Sf ids D (fun i => todo i && !decide (i = x)) (updB blk x t) wy := by
  have no : ∀ b, b ≠ nm → b ∉ [nm] := fun b hb g => hb (List.mem_singleton.1 g)
  have old : ∀ i ∈ ids, (todo i && !decide (i = x)) = false → i = x ∨ (i ≠ x ∧ todo i = false) := fun i hi g => by
    by_cases e : i = x
    · exact .inl e
    · exact .inr ⟨e, by simpa [e] using g⟩
  obtain ⟨es, c, hmap⟩ := h.map.isMap
  have cbn : cb ≠ nm := fun e => by
    have hb : wr.heap[cb]? = _ := h.box
    rw [e, hmap] at hb
    cases hb
  exact ⟨(ha.block cb h.box.lt (no _ cbn)).trans h.box, hm, h.fold.kept ha (fun b hb => no b fun e => h.c6 (e ▸ hb)), h.fuse.kept ha (fun b hb => no b fun e => h.c7 (e ▸ hb)), fun i hi g => by
      rcases old i hi g with rfl | ⟨e, g⟩
      · rw [show updB blk i t i = t from if_pos rfl]
        exact ⟨Tap.apart ht ha (no _ (fun e => by have := h.c2; omega)), hr⟩
      · rw [show updB blk x t i = blk i from if_neg e]
        obtain ⟨h1, h2⟩ := h.taps i hi g
        exact ⟨Tap.apart h1 ha (no _ (fun e => by have := h.c2; omega)), h2⟩,
    fun i hi j hj gi gj e => by
      rcases old i hi gi with rfl | ⟨ei, ti⟩ <;> rcases old j hj gj with rfl | ⟨ej, tj⟩
      · rfl
      · rw [show updB blk i t i = t from if_pos rfl, show updB blk i t j = blk j from if_neg ej] at e
        exact absurd e.symm (hfr j hj tj)
      · rw [show updB blk j t j = t from if_pos rfl, show updB blk j t i = blk i from if_neg ei] at e
        exact absurd e (hfr i hi ti)
      · rw [show updB blk x t i = blk i from if_neg ei, show updB blk x t j = blk j from if_neg ej] at e
        exact h.inj i hi j hj ti tj e,
    h.bel.trans (ha.to_below (fun b hb => by rw [List.mem_singleton.1 hb]; exact h.c11.1) h.bel.size), h.c1, h.c2, h.c3, h.c4, h.c5, h.c6, h.c7, h.c8, h.c9, h.c10, h.c11⟩
theorem CpL.done {w wr : World} {r cb nm : Nat} {an af : Addr} {Sn Sf : List Nat} {D : Dsk} {todo : Int → Bool} {blk : Int → Nat} (h : CpL w r cb nm an af Sn Sf (idsK D.L) D todo blk wr) (hd : ∀ i, todo i = false) (hr : ∀ i ∈ idsK D.L, 1 ≤ i ∧ i ≤ D.tp.length) :
    ∃ b S', b = (⟨cb, 0, none⟩ : Addr) ∧ IsDk wr S' b D ∧ (∀ x ∈ S', w.heap.size ≤ x) ∧ Below w.heap.size w wr := by
  have hm := h.map
  rw [show ((idsK D.L).filter fun i => !todo i) = idsK D.L from List.filter_eq_self.2 (fun i _ => by rw [hd i]; rfl)] at hm
  have hk : DkM wr cb nm an af Sn Sf (idsK D.L) blk D.tp.length D :=
    ⟨h.box, hm, h.fold, h.fuse, fun i hi => (h.taps i hi (hd i)).1, rise_idsK D.L, hr, fun i hi j hj e => h.inj i hi j hj (hd i) (hd j) e, h.c8, h.c9, h.c6, h.c7, h.c10,
      fun i hi g => by have := (h.taps i hi (hd i)).2; have := h.c3 _ g; omega, fun i hi g => by have := (h.taps i hi (hd i)).2; have := h.c4 _ g; omega⟩
  refine ⟨_, _, rfl, hk.is, fun x hx => ?_, h.bel⟩
  rcases mem_dkS.1 hx with g | g | g | g | ⟨i, hi, g⟩
  · rw [g]; exact h.c11.2.1
  · rw [g]; exact h.c11.1
  · exact h.c11.2.2.1 _ g
  · exact h.c11.2.2.2 _ g
  · have := (h.taps i hi (hd i)).2; have := h.c5; omega
section
variable {w w' : World} {ad bm : Nat} {an af : Addr} {Sn Sf : List Nat} {ids : List Int} {blk : Int → Nat} {born : Nat} {D : Dsk}
theorem copy_mid {w1 w2 w3 : World} {an2 af2 : Addr} {Sn2 Sf2 : List Nat} (hk1 : Blk w1 w.heap.size (dkBox D bm an af D.tp.length) 67) (hb1 : Below w.heap.size w w1) (hF2 : IsFold w2 Sn2 an2 D.L) (hS2 : ∀ b ∈ Sn2, w1.drew.heap.size ≤ b) (hb2 : Below w1.drew.heap.size w1.drew w2)
    (hF3 : IsFuse w3 Sf2 af2 D.fu) (hS3 : ∀ b ∈ Sf2, w2.heap.size ≤ b) (hb3 : Below w2.heap.size w2 w3) (kk : Blk w3 w.heap.size (dkBox D bm an af D.tp.length) 67) :
    ∃ an2' af2' Sn2' Sf2', Blk ((w3.setCell ⟨w.heap.size, 2, none⟩ (.pointer (some an2))).setCell ⟨w.heap.size, 3, none⟩ (.pointer (some af2))) w.heap.size (dkBox D bm an2' af2' D.tp.length) 67 ∧ IsFold ((w3.setCell ⟨w.heap.size, 2, none⟩ (.pointer (some an2))).setCell ⟨w.heap.size, 3, none⟩ (.pointer (some af2))) Sn2' an2' D.L ∧ IsFuse ((w3.setCell ⟨w.heap.size, 2, none⟩ (.pointer (some an2))).setCell ⟨w.heap.size, 3, none⟩ (.pointer (some af2))) Sf2' af2' D.fu ∧
      (∀ b ∈ Sn2', w.heap.size < b) ∧ (∀ b ∈ Sf2', w.heap.size < b) ∧ (∀ b ∈ Sn2', b ∉ Sf2') ∧ Below w.heap.size w ((w3.setCell ⟨w.heap.size, 2, none⟩ (.pointer (some an2))).setCell ⟨w.heap.size, 3, none⟩ (.pointer (some af2))) := by
  have l1 : w.heap.size < w1.heap.size := hk1.lt
  have l2 : w1.heap.size ≤ w2.heap.size := hb2.size
  have n2 : ∀ b ∈ Sn2, w.heap.size < b := fun b hb => by have h : w1.heap.size ≤ b := hS2 b hb; omega
  have n3 : ∀ b ∈ Sf2, w.heap.size < b := fun b hb => by have h : w2.heap.size ≤ b := hS3 b hb; omega
  have ha : Apart [w.heap.size] w3 ((w3.setCell ⟨w.heap.size, 2, none⟩ (.pointer (some an2))).setCell ⟨w.heap.size, 3, none⟩ (.pointer (some af2))) := ((Apart.refl [w.heap.size] w3).setCell (p := ⟨w.heap.size, 2, none⟩) (.inl (by simp)) _).setCell (p := ⟨w.heap.size, 3, none⟩) (.inl (by simp)) _
  have k2 := (kk.set 2 (.pointer (some an2))).set 3 (.pointer (some af2))
  refine ⟨an2, af2, Sn2, Sf2, by simpa using k2, (hF2.below hb3).kept ha fun b hb g => by have := n2 b hb; have := List.mem_singleton.1 g; omega, hF3.kept ha fun b hb g => by have := n3 b hb; have := List.mem_singleton.1 g; omega, n2, n3, fun b hb g => by have := hF2.lt b hb; have := hS3 b g; omega, ?_⟩
  have hb2' : Below w1.heap.size w1 w2 := ⟨hb2.os, hb2.tape, hb2.output, hb2.size, hb2.block⟩
  exact ((((hb1.trans (hb2'.mono (by omega))).trans (hb3.mono (by omega))).setCell (Nat.le_refl _) _)).setCell (Nat.le_refl _) _
theorem copy_store {w6 w7 : World} {r cb nm : Nat} {an af : Addr} {Sn Sf : List Nat} {ids : List Int} {todo : Int → Bool} {blk2 : Int → Nat} (h : CpL w r cb nm an af Sn Sf ids D todo blk2 w6) {x : Int} (hw : (Lit.int .i64 x).wf = true) (hx : x ∈ ids) (htx : todo x = true) (hb : Below w6.drew.heap.size w6.drew w7) (t : Nat) (hl : ids.length ≤ 1000000) (hnd : ids.Nodup) :
    ∃ w8, (Instr.mapUpdate 63 (.map (some nm)) (.int .i64 x) (.pointer (some ⟨t, 0, none⟩))).run Tryz.prog w7 = .ok () w8 ∧ TMap w8 nm (ids.filter fun i => !(todo i && !decide (i = x))) (updB blk2 x t) ∧ Apart [nm] w7 w8 := by
  have hb' : Below w6.heap.size w6 w7 := ⟨hb.os, hb.tape, hb.output, hb.size, hb.block⟩
  have hm := (h.onto hb').map
  refine hm.store (Nat.le_trans (List.length_filter_le _ _) hl) hw t ?_ (fun i => ?_) (if_pos rfl) (fun i hi hne => if_neg hne)
  · exact hnd.filter _
  · rw [List.mem_filter, List.mem_filter]
    by_cases e : i = x
    · subst e; simp [hx]
    · simp [e]
theorem copy_step {w6 w7 w8 : World} {r cb nm : Nat} {an af : Addr} {Sn Sf : List Nat} {ids : List Int} {todo : Int → Bool} {blk2 : Int → Nat} {cnt t : Nat} (h : CpL w r cb nm an af Sn Sf ids D todo blk2 w6) {x : Int} (hx : x ∈ ids) (htx : todo x = true) (hb : Below w6.drew.heap.size w6.drew w7)
    (ht : Tap w7 t (D.t x).k (D.t x).n) (hge : w6.drew.heap.size ≤ t) (hm : TMap w8 nm (ids.filter fun i => !(todo i && !decide (i = x))) (updB blk2 x t)) (ha : Apart [nm] w7 w8) (hr : RngT w6 bm r ids blk (fun i => todo i && !decide (i = x)) cnt) (hbm : bm < w.heap.size) :
    RngT w8 bm r ids blk (fun i => todo i && !decide (i = x)) cnt ∧ CpL w r cb nm an af Sn Sf ids D (fun i => todo i && !decide (i = x)) (updB blk2 x t) w8 := by
  have hb' : Below w6.heap.size w6 w7 := ⟨hb.os, hb.tape, hb.output, hb.size, hb.block⟩
  have h7 := h.onto hb'
  have hge' : w6.heap.size ≤ t := hge
  have hl := hr.lt
  refine ⟨(hr.apart (Apart.of_below (S := []) hb') (by simp) (by simp)).apart ha (fun g => by have := List.mem_singleton.1 g; have := h.c11.1; omega) (fun g => by have := List.mem_singleton.1 g; have := h.c2; omega), h7.step hx htx ht (by omega) (fun i hi ti => ?_) hm ha⟩
  have := Tap3.lt (h.taps i hi ti).1
  omega
set_option maxRecDepth 100000 in
set_option maxHeartbeats 1600000 in
theorem dcopy_b (h : DkM w ad bm an af Sn Sf (idsK D.L) blk D.tp.length D) (hD : D.ok 199) :
    Calls Tryz.prog 9 #[.pointer (some ⟨ad, 0, none⟩)] w fun e w' => ∃ b S', e = .returned (.pointer (some b)) ∧ IsDk w' S' b D ∧ (∀ x ∈ S', w.heap.size ≤ x) ∧ Below w.heap.size w w' := by
  obtain ⟨w1, hw1⟩ : ∃ w1, w1 = w.alloc (.cells (dkBox D bm an af D.tp.length) 67) := ⟨_, rfl⟩
  have hb1 : Below w.heap.size w w1 := by rw [hw1]; exact (Below.refl _ w).alloc (Nat.le_refl _) _
  have k1 : Blk w1 w.heap.size (dkBox D bm an af D.tp.length) 67 := by rw [hw1]; exact Blk.new w _ _
  have hlt := h.lt
  obtain ⟨c0, c1, c2, c3, c4, c5⟩ := h.cells
  have CM := Lib.hid (dmade_yes h); have H0 := Lib.hid h; have H1 := Lib.hid (h.below hb1); have HB1 := Lib.hid hb1; have K1 := Lib.hid k1; have HD := Lib.hid hD; have HLT := Lib.hid hlt; have HW1 := Lib.hid hw1
  clear h hb1 k1 hD hlt hw1
  have hmk := fun (w : World) => run_makeMap (P := Tryz.prog) 63 w
  go_enter Tryz.func9, Tryz.ntmps9
  go_wp2_with fail
  refine CM.out.mono ?_
  rintro e w' ⟨rfl, rfl⟩
  go_upto_region 4 with fail
  rw [← HW1.out]
  clear c0 c1 c2 c3 c4 c5
  obtain ⟨d0, d1, d2, d3, d4, d5⟩ := H1.out.drew.cells
  clear d0 d1 d4 d5
  go_cut [] (fun wx => ∃ an2 af2 Sn2 Sf2, Blk wx w.heap.size (dkBox D bm an2 af2 D.tp.length) 67 ∧ IsFold wx Sn2 an2 D.L ∧ IsFuse wx Sf2 af2 D.fu ∧ (∀ b ∈ Sn2, w.heap.size < b) ∧ (∀ b ∈ Sf2, w.heap.size < b) ∧ (∀ b ∈ Sn2, b ∉ Sf2) ∧ Below w.heap.size w wx)
  case first =>
    go_region_with (first
      | (go_at_call 34; refine (focopy_any H1.out.drew.fold (Dsk.okL (D := D) HD.out)).mono ?_; rintro e w2 ⟨an2, Sn2, rfl, hF2, hS2, hb2⟩; have e3 := (H1.out.drew.below hb2).cells.2.2.2.1; have HF2 := Lib.hid hF2; have HS2 := Lib.hid hS2; have HB2 := Lib.hid hb2; clear hF2 hS2 hb2)
      | (go_at_call 35; refine (fcopy_any (H1.out.drew.below HB2.out).fuse).mono ?_; rintro e w3 ⟨af2, Sf2, rfl, hF3, hS3, hb3⟩; have kk := ((show Blk w1.drew w.heap.size (dkBox D bm an af D.tp.length) 67 from K1.out).onto HB2.out).onto hb3; have u2 := kk.cell 2 _ rfl; have u3 := kk.cell 3 _ rfl; have v2 := kk.free 2; have v3 := kk.free 3; have HF3 := Lib.hid hF3; have HS3 := Lib.hid hS3; have HB3 := Lib.hid hb3; have KK := Lib.hid kk; clear hF3 hS3 hb3 kk))
    all_goals
      go_wp2_with fail
      go_meet
      exact copy_mid K1.out HB1.out HF2.out HS2.out HB2.out HF3.out HS3.out HB3.out KK.out
  case rest =>
    obtain ⟨an2, af2, Sn2, Sf2, hk, hfo, hfu, hs1, hs2, hs3, hbw⟩ := hcut
    obtain ⟨w4, hw4⟩ : ∃ w4, w4 = (wc.alloc (.map #[] 0)).setCell ⟨w.heap.size, 1, none⟩ (.map (some wc.heap.size)) := ⟨_, rfl⟩
    have hbm : Below wc.heap.size wc (wc.alloc (.map #[] 0)) := (Below.refl _ _).alloc (Nat.le_refl _) _
    have kk := hk.onto hbm
    have u1 := kk.cell 1 _ rfl; have v1 := kk.free 1
    have lcb := hk.lt
    have hb4 : Below w.heap.size w w4 := by rw [hw4]; exact (hbw.trans (hbm.mono hbw.size)).setCell (Nat.le_refl _) _
    have hset : Apart [w.heap.size] (wc.alloc (.map #[] 0)) w4 := by rw [hw4]; exact (Apart.refl [w.heap.size] _).setCell (p := ⟨w.heap.size, 1, none⟩) (.inl (by simp)) _
    have no : ∀ b, b ≠ w.heap.size → b ∉ [w.heap.size] := fun b hb g => hb (List.mem_singleton.1 g)
    have z4 : w4.heap.size = wc.heap.size + 1 := by rw [hw4]; simp
    have m4 : TMap w4 wc.heap.size [] blk := (TMap.made wc blk).keep (hset.block _ (by simp) (no _ (by omega)))
    have k4 : Blk w4 w.heap.size (dkBox D wc.heap.size an2 af2 D.tp.length) 67 := by rw [hw4]; have := kk.set 1 (.map (some wc.heap.size)); simpa using this
    have fo4 : IsFold w4 Sn2 an2 D.L := (hfo.below hbm).kept hset fun b hb => no b (by have := hs1 b hb; omega)
    have fu4 : IsFuse w4 Sf2 af2 D.fu := (hfu.kept (.of_below (S := []) hbm) (by simp)).kept hset fun b hb => no b (by have := hs2 b hb; omega)
    have h4 := H0.out.below hb4
    obtain ⟨e0, e1, e2, e3, e4, e5⟩ := h4.cells
    have L0 : ∀ b ∈ Sn2, b < wc.heap.size := hfo.lt
    have L1 : ∀ b ∈ Sf2, b < wc.heap.size := hfu.lt
    have H4 := Lib.hid h4; have M4 := Lib.hid m4; have K4 := Lib.hid k4; have FO4 := Lib.hid fo4; have FU4 := Lib.hid fu4; have HB4 := Lib.hid hb4; have HS1 := Lib.hid hs1; have HS2 := Lib.hid hs2; have HS3 := Lib.hid hs3; have LL0 := Lib.hid L0; have LL1 := Lib.hid L1; have HW4 := Lib.hid hw4; have Z4 := Lib.hid z4; have LCB := Lib.hid lcb; have HMAP := Lib.hid h4.map
    clear hk hfo hfu hs1 hs2 hs3 hbw hbm hset no m4 k4 fo4 fu4 h4 L0 L1 hb4 z4 lcb kk e0 e2 e3 e4 e5
    go_upto_region 6 with fail
    rw [← HW4.out]
    clear hw4 u1 v1 d2 d3
    go_wp2_with (first
      | (at_range; refine wpList_range_tapes rfl _ rfl bm (idsK D.L) blk rfl HMAP.out ?_; intro w5 hrg5 hb5 hs5)
      | go_in)
    go_frame
    clear e1
    go_loopw [4, 5] (fun _ _ wr => ∃ (todo : Int → Bool) (cnt : Nat) (blk2 : Int → Nat), RngT wr bm w4.heap.size (idsK D.L) blk todo cnt ∧ CpL w w4.heap.size w.heap.size wc.heap.size an2 af2 Sn2 Sf2 (idsK D.L) D todo blk2 wr) (fun _ _ wr => wr.rangeLeft bm w4.heap.size)
    case atStart =>
      have hz := Z4.out
      have hl := LCB.out
      refine ⟨_, _, blk, hrg5, K4.out.onto hb5, (M4.out.keep (hb5.block _ M4.out.lt)).to (H0.out.map.1.filter _) (fun i => ?_) (fun _ _ => rfl), FO4.out.below hb5, FU4.out.kept (.of_below (S := []) hb5) (by simp), fun i hi ht => ?_, fun i hi j hj ti => ?_, HB4.out.trans (hb5.mono (by omega)), by omega, by omega, fun b hb => by have := LL0.out b hb; omega, fun b hb => by have := LL1.out b hb; omega, by omega, fun g => by have := LL0.out _ g; omega, fun g => by have := LL1.out _ g; omega, fun g => by have := HS1.out _ g; omega, fun g => by have := HS2.out _ g; omega, HS3.out, by omega, Nat.le_refl _, fun b hb => Nat.le_of_lt (HS1.out b hb), fun b hb => Nat.le_of_lt (HS2.out b hb)⟩
      · simp
      · simp [hi] at ht
      · simp [hi] at ti
    case round =>
      obtain ⟨todo, cnt, blk2, hrg, hcp⟩ := hrel
      go_wp2_with (first
        | (at_next; refine wpList_next_tapes rfl _ rfl bm w4.heap.size (idsK D.L) blk todo cnt rfl hrg ?_ ?_)
        | go_in)
      · intro _ hl0
        go_wp2
        go_ret
        obtain ⟨b, S', rfl, hE⟩ := hcp.done hl0 (fun i hi => ids_le HD.out i hi)
        exact ⟨_, S', rfl, hE⟩
      · intro x w6 cnt1 hx htx hrg1 hlt ha1 hs1 hen
        have hc6 := hcp.turn ha1
        have HX := Lib.hid hx; have HTX := Lib.hid htx; have HR := Lib.hid hrg1; have HO := Lib.hid hrg; have HL := Lib.hid hlt; have HC := Lib.hid hc6
        have d1 := (show Blk w6.drew w.heap.size (dkBox D wc.heap.size an2 af2 D.tp.length) 67 from hc6.box).cell 1 _ rfl
        clear hcp hrg1 hrg hlt ha1 hs1 hc6 hx htx hrg5 hb5 hs5
        go_upto_region 9 with fail
        go_region_with (go_at_call 36; refine (tcopy_yes ((H0.out.below HC.out.bel).drew.taps x HX.out)).mono ?_; rintro e w7 ⟨t, rfl, hge, ht, hb7⟩; obtain ⟨w8, hrun, hm8, ha8⟩ := copy_store HC.out (H0.out.map.wf HX.out) HX.out HTX.out hb7 t (ids_few (M := 199) (D := D) HD.out (by omega)) H0.out.map.1; have d7 := ((show Blk w6.drew w.heap.size (dkBox D wc.heap.size an2 af2 D.tp.length) 67 from HC.out.box).onto hb7).cell 1 _ rfl; have HE := Lib.hid (copy_step HC.out HX.out HTX.out hb7 ht hge hm8 ha8 HR.out H0.out.map.lt); clear hge ht hb7 hm8 ha8)
        all_goals
          go_wp2
          go_roundw
          case rel => exact ⟨_, cnt1, _, HE.out.1, HE.out.2⟩
          case measure => rw [HE.out.1.left_eq, HO.out.left_eq]; exact HL.out
end
theorem dkcopy_any {w : World} {S : List Nat} {a : Addr} {D : Dsk} (h : IsDk w S a D) (hD : D.ok 199) :
    Calls Tryz.prog 9 #[.pointer (some a)] w fun e w' => ∃ b S', e = .returned (.pointer (some b)) ∧ IsDk w' S' b D ∧ (∀ x ∈ S', w.heap.size ≤ x) ∧ Below w.heap.size w w' := by
  obtain ⟨ad, bm, an, af, Sn, Sf, blk, rfl, rfl, k⟩ := h.out
  exact dcopy_b k hD
end Go.Proofs.YtfgecjlccngddaaGreat
