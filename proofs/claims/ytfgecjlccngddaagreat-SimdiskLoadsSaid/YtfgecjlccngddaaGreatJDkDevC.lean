/-
  Joined: DkDev9, DkDev10, DkDev11.
-/
import Derived.Test.YtfgecjlccngddaaGreatJDkDevBB
namespace Go.Proofs.YtfgecjlccngddaaGreat
set_option linter.unusedSimpArgs false
set_option linter.unusedVariables false
open Go.RowKit
set_option linter.unusedVariables false

theorem ids_drop {L : List (List Ent)} (h : L ≠ []) (s : ByteArray) : idsK (dropF L s) = idsK L := by
  refine rise_eq (rise_idsK _) (rise_idsK _) fun m => ?_
  rw [mem_idsK, mem_idsK]
  unfold dropF
  split
  · constructor
    · rintro ⟨l, hl, e, he, rfl⟩
      rcases List.mem_append.1 hl with hl | hl
      · exact ⟨l, hl, e, he, rfl⟩
      · rw [List.mem_singleton.1 hl] at he
        exact ⟨_, nowL_mem h, e, (List.mem_filter.1 he).1, rfl⟩
    · rintro ⟨l, hl, e, he, rfl⟩
      exact ⟨l, by simp [hl], e, he, rfl⟩
  · exact Iff.rfl
theorem ids_move {L : List (List Ent)} (h : L ≠ []) (s d : ByteArray) : idsK (moveF L s d) = idsK L := by
  refine rise_eq (rise_idsK _) (rise_idsK _) fun m => ?_
  rw [mem_idsK, mem_idsK]
  unfold moveF
  cases hf : findE (nowL L) s with
  | none => exact Iff.rfl
  | some i =>
    show (∃ l ∈ (if s = d then L else _), _) ↔ _
    split
    · exact Iff.rfl
    · obtain ⟨x, hx, hid, _⟩ := findE_mem hf
      constructor
      · rintro ⟨l, hl, e, he, rfl⟩
        rcases List.mem_append.1 hl with hl | hl
        · exact ⟨l, hl, e, he, rfl⟩
        · rw [List.mem_singleton.1 hl] at he
          rcases (mem_withE _ _ _).1 he with rfl | he
          · exact ⟨_, nowL_mem h, x, hx, hid⟩
          · exact ⟨_, nowL_mem h, e, (List.mem_filter.1 (List.mem_filter.1 he).1).1, rfl⟩
      · rintro ⟨l, hl, e, he, rfl⟩
        exact ⟨l, by simp [hl], e, he, rfl⟩
theorem fold_end {w1 w2 : World} {ad bm : Nat} {an af : Addr} {Sn Sn' Sf : List Nat} {blk : Int → Nat} {D : Dsk} {L : List (List Ent)} (h : DkM w1 ad bm an af Sn Sf (idsK D.L) blk D.tp.length D)
    (hF : IsFold w2 Sn' an L) (hA : Apart Sn w1 w2) (hS : ∀ b ∈ Sn', b ∈ Sn ∨ w1.heap.size ≤ b) (hid : idsK L = idsK D.L) :
    ∃ S', IsDk w2 S' ⟨ad, 0, none⟩ { D with L := L } ∧ Apart (dkS ad bm Sn Sf (idsK D.L) blk) w1 w2 ∧ ∀ b ∈ S', b ∈ dkS ad bm Sn Sf (idsK D.L) blk ∨ w1.heap.size ≤ b := by
  have h2 := h.onFold hF hA hS
  have h3 : DkM w2 ad bm an af Sn' Sf (idsK L) blk D.tp.length { D with L := L } := by rw [hid]; exact h2
  refine ⟨_, DkM.is (D := { D with L := L }) h3, hA.more fun b hb => mem_dkS.2 (.inr (.inr (.inl hb))), fun b hb => ?_⟩
  have hb : b ∈ dkS ad bm Sn' Sf (idsK D.L) blk := by rw [← hid]; exact hb
  rcases mem_dkS.1 hb with g | g | g | g | g
  · exact .inl (mem_dkS.2 (.inl g))
  · exact .inl (mem_dkS.2 (.inr (.inl g)))
  · exact (hS b g).imp (fun k => mem_dkS.2 (.inr (.inr (.inl k)))) id
  · exact .inl (mem_dkS.2 (.inr (.inr (.inr (.inl g)))))
  · exact .inl (mem_dkS.2 (.inr (.inr (.inr (.inr g)))))
theorem id_none {M : Nat} {D : Dsk} (h : D.ok M) {s : ByteArray} (hi : D.id s = 0) : findE (nowL D.L) s = none := by
  rcases D.id_is h s with ⟨_, e⟩ | ⟨e, _⟩
  · exact e
  · omega
theorem id_some {M : Nat} {D : Dsk} (h : D.ok M) {s : ByteArray} (hi : ¬ D.id s = 0) : findE (nowL D.L) s = some (D.id s) ∧ D.id s ∈ idsK D.L := by
  rcases D.id_is h s with ⟨e, _⟩ | ⟨_, _, e⟩
  · exact absurd e hi
  · obtain ⟨x, hx, hid, _⟩ := findE_mem e
    exact ⟨e, (mem_idsK _ _).2 ⟨_, nowL_mem h.2.2.1.1, x, hx, hid⟩⟩
section
variable {w w' : World} {ad bm : Nat} {an af : Addr} {Sn Sf : List Nat} {ids : List Int} {blk : Int → Nat} {born : Nat} {D : Dsk}
set_option maxRecDepth 100000 in
set_option maxHeartbeats 800000 in
theorem dremove_c {b0 b1 : Nat} (h : DkM w ad bm an af Sn Sf (idsK D.L) blk D.tp.length D) (hL : okL 500 D.L) (s : ByteArray) (hs : s.size ≤ maxLen) (c0 : w.cell? ⟨b0, 0, none⟩ = some (.pointer (some ⟨ad, 0, none⟩))) (c1 : w.cell? ⟨b1, 0, none⟩ = some (.string s)) :
    Calls Tryz.prog 77 #[.pointer (some ⟨b0, 0, none⟩), .pointer (some ⟨b1, 0, none⟩)] w (UpdB w.heap.size w (dkS ad bm Sn Sf (idsK D.L) blk) ⟨ad, 0, none⟩ { D with L := dropF D.L s } (.tuple #[])) := by
  have CF := Lib.hid (fodrop_any h.drew.fold hL s hs)
  obtain ⟨d0, d1, d2, d3, d4, d5⟩ := h.cells
  have H := Lib.hid h; have HID := Lib.hid (ids_drop hL.1 s)
  clear h hL
  go_enter Tryz.func77, Tryz.ntmps77
  go_wp2_with fail
  go_still_tail 5, (by kernel_rfl)
  change wpList _ _ _ _ _ w.drew
  go_wp2_with fail
  refine CF.out.mono ?_
  rintro e w2 ⟨rfl, Sn', hF, hA, hS⟩
  have hE := fold_end H.out.drew hF hA hS HID.out
  have HE := Lib.hid (⟨hE.choose, hE.choose_spec.1, ⟨hE.choose_spec.2.1.os, hE.choose_spec.2.1.tape, hE.choose_spec.2.1.output, hE.choose_spec.2.1.size, hE.choose_spec.2.1.block⟩, hE.choose_spec.2.2⟩ : ∃ S', IsDk w2 S' ⟨ad, 0, none⟩ { D with L := dropF D.L s } ∧ Apart (dkS ad bm Sn Sf (idsK D.L) blk) w w2 ∧ ∀ b ∈ S', b ∈ dkS ad bm Sn Sf (idsK D.L) blk ∨ w.heap.size ≤ b)
  clear hE hF hA hS
  go_wp2
  go_end0
  exact ⟨rfl, HE.out⟩
theorem eRemove : ∀ args w, (callFunc 77 args).run Tryz.prog w = .ok (.enter 77 args) w := enters_of Tryz.func77 (by kernel_rfl) rfl
set_option maxRecDepth 100000 in
set_option maxHeartbeats 800000 in
theorem dremove_off (h : DkM w ad bm an af Sn Sf (idsK D.L) blk D.tp.length D) (s : ByteArray) (hs : s.size ≤ maxLen) (ho : D.fu.off = true) :
    Calls Tryz.prog 22 #[.pointer (some ⟨ad, 0, none⟩), .string s] w (UpdK w (dkS ad bm Sn Sf (idsK D.L) blk) ⟨ad, 0, none⟩ D (.int .i64 14)) := by
  obtain ⟨w0, hw0⟩ : ∃ w0, w0 = (w.alloc (.cells #[.pointer (some ⟨ad, 0, none⟩)] 23)).alloc (.cells #[.string s] 9) := ⟨_, rfl⟩
  have hb0 : Below w.heap.size w w0 := by rw [hw0]; exact ((Below.refl _ w).alloc (by simp; try omega) _).alloc (by simp; try omega) _
  have k0 : Blk w0 w.heap.size #[.pointer (some ⟨ad, 0, none⟩)] 23 := by rw [hw0]; have := ((Blk.new w #[.pointer (some ⟨ad, 0, none⟩)] 23).alloc (.cells #[.string s] 9)); simpa using this
  have k1 : Blk w0 (w.heap.size + 1) #[.string s] 9 := by rw [hw0]; have := (Blk.new (w.alloc (.cells #[.pointer (some ⟨ad, 0, none⟩)] 23)) #[.string s] 9); simpa using this
  have CR := Lib.hid (dfind_off (h.below hb0) ho s); have HB := Lib.hid hb0; have HI := Lib.hid h.is
  have x0 := k0.cell 0 _ rfl; have x1 := k1.cell 0 _ rfl
  clear h hb0 k0 k1
  subst hw0
  go_enter Tryz.func22, Tryz.ntmps22
  go_wp2_with (go_at_call 43; refine CR.out.mono ?_; rintro e w1 ⟨rfl, hb1⟩)
  go_ret
  exact upd_same HI.out (HB.out.trans (hb1.mono HB.out.size)) _
set_option maxRecDepth 100000 in
set_option maxHeartbeats 800000 in
theorem dremove_no (h : DkM w ad bm an af Sn Sf (idsK D.L) blk D.tp.length D) (s : ByteArray) (hs : s.size ≤ maxLen) (hL : okL 500 D.L) (ho : D.fu.off = false) (hf : findE (nowL D.L) s = none) :
    Calls Tryz.prog 22 #[.pointer (some ⟨ad, 0, none⟩), .string s] w (UpdK w (dkS ad bm Sn Sf (idsK D.L) blk) ⟨ad, 0, none⟩ D (.int .i64 8)) := by
  obtain ⟨w0, hw0⟩ : ∃ w0, w0 = (w.alloc (.cells #[.pointer (some ⟨ad, 0, none⟩)] 23)).alloc (.cells #[.string s] 9) := ⟨_, rfl⟩
  have hb0 : Below w.heap.size w w0 := by rw [hw0]; exact ((Below.refl _ w).alloc (by simp; try omega) _).alloc (by simp; try omega) _
  have k0 : Blk w0 w.heap.size #[.pointer (some ⟨ad, 0, none⟩)] 23 := by rw [hw0]; have := ((Blk.new w #[.pointer (some ⟨ad, 0, none⟩)] 23).alloc (.cells #[.string s] 9)); simpa using this
  have k1 : Blk w0 (w.heap.size + 1) #[.string s] 9 := by rw [hw0]; have := (Blk.new (w.alloc (.cells #[.pointer (some ⟨ad, 0, none⟩)] 23)) #[.string s] 9); simpa using this
  have CR := Lib.hid (dfind_no (h.below hb0) hL ho s hs hf); have HB := Lib.hid hb0; have HI := Lib.hid h.is
  have x0 := k0.cell 0 _ rfl; have x1 := k1.cell 0 _ rfl
  clear h hb0 k0 k1
  subst hw0
  go_enter Tryz.func22, Tryz.ntmps22
  go_wp2_with (go_at_call 43; refine CR.out.mono ?_; rintro e w1 ⟨rfl, hb1⟩)
  go_ret
  exact upd_same HI.out (HB.out.trans (hb1.mono HB.out.size)) _
set_option maxRecDepth 100000 in
set_option maxHeartbeats 800000 in
theorem dremove_put (h : DkM w ad bm an af Sn Sf (idsK D.L) blk D.tp.length D) (s : ByteArray) (hs : s.size ≤ maxLen) (hD : D.ok 199) (ho : D.fu.off = false) {n : Int} (hf : findE (nowL D.L) s = some n) :
    Calls Tryz.prog 22 #[.pointer (some ⟨ad, 0, none⟩), .string s] w (UpdK w (dkS ad bm Sn Sf (idsK D.L) blk) ⟨ad, 0, none⟩ (Dsk.then (D.ask false) (fun E => { E with L := dropF E.L s })).1 (.int .i64 (Dsk.then (D.ask false) (fun E => { E with L := dropF E.L s })).2)) := by
  obtain ⟨w0, hw0⟩ : ∃ w0, w0 = (w.alloc (.cells #[.pointer (some ⟨ad, 0, none⟩)] 23)).alloc (.cells #[.string s] 9) := ⟨_, rfl⟩
  have hb0 : Below w.heap.size w w0 := by rw [hw0]; exact ((Below.refl _ w).alloc (by simp; try omega) _).alloc (by simp; try omega) _
  have k0 : Blk w0 w.heap.size #[.pointer (some ⟨ad, 0, none⟩)] 23 := by rw [hw0]; have := ((Blk.new w #[.pointer (some ⟨ad, 0, none⟩)] 23).alloc (.cells #[.string s] 9)); simpa using this
  have k1 : Blk w0 (w.heap.size + 1) #[.string s] 9 := by rw [hw0]; have := (Blk.new (w.alloc (.cells #[.pointer (some ⟨ad, 0, none⟩)] 23)) #[.string s] 9); simpa using this
  have hlt := h.lt
  have CR := Lib.hid (dfind_yes (h.below hb0) (Dsk.okL hD) ho s hs hf); have HB := Lib.hid hb0; have HI := Lib.hid h; have HD := Lib.hid hD; have HLT := Lib.hid hlt
  have K0 := Lib.hid k0; have K1 := Lib.hid k1
  have x0 := k0.cell 0 _ rfl; have x1 := k1.cell 0 _ rfl
  obtain ⟨⟨X, c⟩, hx⟩ : ∃ x, Dsk.then (D.ask false) (fun E => { E with L := dropF E.L s }) = x := ⟨_, rfl⟩
  have HX := Lib.hid hx
  rw [hx]
  clear hx
  clear h hb0 k0 k1 hD hf hlt
  subst hw0
  go_enter Tryz.func22, Tryz.ntmps22
  go_wp2_with fail
  refine CR.out.mono ?_
  rintro e w1 ⟨rfl, hb1⟩
  have hbb := HB.out.trans (hb1.mono HB.out.size)
  have m0 := K0.out.onto hb1
  have m1 := K1.out.onto hb1
  have CP := dput_of (g := 77) (pre := #[]) (post := #[.pointer (some ⟨w.heap.size, 0, none⟩), .pointer (some ⟨w.heap.size + 1, 0, none⟩)]) (HI.out.below hbb) HD.out eRemove (fun E => { E with L := dropF E.L s }) w.heap.size hbb.size (fun w3 Sf1 h3 ha3 _ => by
    have no : ∀ b, w.heap.size ≤ b → b ∉ dkS ad bm Sn Sf (idsK D.L) blk := fun b hb g => by have := HLT.out b g; omega
    have n0 : w.heap.size ≤ w.heap.size := by omega
    have n1 : w.heap.size ≤ w.heap.size + 1 := by omega
    refine (dremove_c (D := (D.ask false).1) h3 (Dsk.okL (D := D) HD.out) s hs ((ha3.cell (p := ⟨w.heap.size, 0, none⟩) m0.lt (no _ n0)).trans (m0.cell 0 _ rfl)) ((ha3.cell (p := ⟨w.heap.size + 1, 0, none⟩) m1.lt (no _ n1)).trans (m1.cell 0 _ rfl))).mono ?_
    rintro e w4 ⟨rfl, S', hI, hA, hS⟩
    exact ⟨rfl, S', hI, hA, fun b hb => (hS b hb).imp id fun k => Nat.le_trans (Nat.le_trans hbb.size ha3.size) k⟩)
  rw [HX.out] at CP
  have CP := Lib.hid CP; have HBC := Lib.hid hbb
  have z0 := m0.cell 0 _ rfl; have z1 := m1.cell 0 _ rfl
  clear hb1 hbb m0 m1
  go_wp2_with (go_at_call 39; refine CP.out.mono ?_; rintro e w9 ⟨rfl, hE⟩; have HE := Lib.hid hE; clear hE)
  go_ret
  exact upd_from HBC.out ⟨rfl, HE.out⟩
set_option maxRecDepth 100000 in
set_option maxHeartbeats 800000 in
theorem drename_c {b0 b1 b2 : Nat} (h : DkM w ad bm an af Sn Sf (idsK D.L) blk D.tp.length D) (hL : okL 500 D.L) (s : ByteArray) (hs : s.size ≤ maxLen) (d : ByteArray) (hd : d.size ≤ maxLen) (c0 : w.cell? ⟨b0, 0, none⟩ = some (.pointer (some ⟨ad, 0, none⟩))) (c1 : w.cell? ⟨b1, 0, none⟩ = some (.string s)) (c2 : w.cell? ⟨b2, 0, none⟩ = some (.string d)) :
    Calls Tryz.prog 75 #[.pointer (some ⟨b0, 0, none⟩), .pointer (some ⟨b1, 0, none⟩), .pointer (some ⟨b2, 0, none⟩)] w (UpdB w.heap.size w (dkS ad bm Sn Sf (idsK D.L) blk) ⟨ad, 0, none⟩ { D with L := moveF D.L s d } (.tuple #[])) := by
  have CF := Lib.hid (fomove_any h.drew.fold hL s d hs hd)
  obtain ⟨d0, d1, d2, d3, d4, d5⟩ := h.cells
  have H := Lib.hid h; have HID := Lib.hid (ids_move hL.1 s d)
  clear h hL
  go_enter Tryz.func75, Tryz.ntmps75
  go_wp2_with fail
  go_still_tail 6, (by kernel_rfl)
  change wpList _ _ _ _ _ w.drew
  go_wp2_with fail
  refine CF.out.mono ?_
  rintro e w2 ⟨rfl, Sn', hF, hA, hS⟩
  have hE := fold_end H.out.drew hF hA hS HID.out
  have HE := Lib.hid (⟨hE.choose, hE.choose_spec.1, ⟨hE.choose_spec.2.1.os, hE.choose_spec.2.1.tape, hE.choose_spec.2.1.output, hE.choose_spec.2.1.size, hE.choose_spec.2.1.block⟩, hE.choose_spec.2.2⟩ : ∃ S', IsDk w2 S' ⟨ad, 0, none⟩ { D with L := moveF D.L s d } ∧ Apart (dkS ad bm Sn Sf (idsK D.L) blk) w w2 ∧ ∀ b ∈ S', b ∈ dkS ad bm Sn Sf (idsK D.L) blk ∨ w.heap.size ≤ b)
  clear hE hF hA hS
  go_wp2
  go_end0
  exact ⟨rfl, HE.out⟩
theorem eRename : ∀ args w, (callFunc 75 args).run Tryz.prog w = .ok (.enter 75 args) w := enters_of Tryz.func75 (by kernel_rfl) rfl
set_option maxRecDepth 100000 in
set_option maxHeartbeats 800000 in
theorem drename_off (h : DkM w ad bm an af Sn Sf (idsK D.L) blk D.tp.length D) (s : ByteArray) (hs : s.size ≤ maxLen) (d : ByteArray) (hd : d.size ≤ maxLen) (ho : D.fu.off = true) :
    Calls Tryz.prog 21 #[.pointer (some ⟨ad, 0, none⟩), .string s, .string d] w (UpdK w (dkS ad bm Sn Sf (idsK D.L) blk) ⟨ad, 0, none⟩ D (.int .i64 14)) := by
  obtain ⟨w0, hw0⟩ : ∃ w0, w0 = ((w.alloc (.cells #[.pointer (some ⟨ad, 0, none⟩)] 23)).alloc (.cells #[.string s] 9)).alloc (.cells #[.string d] 9) := ⟨_, rfl⟩
  have hb0 : Below w.heap.size w w0 := by rw [hw0]; exact (((Below.refl _ w).alloc (by simp; try omega) _).alloc (by simp; try omega) _).alloc (by simp; try omega) _
  have k0 : Blk w0 w.heap.size #[.pointer (some ⟨ad, 0, none⟩)] 23 := by rw [hw0]; have := (((Blk.new w #[.pointer (some ⟨ad, 0, none⟩)] 23).alloc (.cells #[.string s] 9)).alloc (.cells #[.string d] 9)); simpa using this
  have k1 : Blk w0 (w.heap.size + 1) #[.string s] 9 := by rw [hw0]; have := ((Blk.new (w.alloc (.cells #[.pointer (some ⟨ad, 0, none⟩)] 23)) #[.string s] 9).alloc (.cells #[.string d] 9)); simpa using this
  have k2 : Blk w0 (w.heap.size + 2) #[.string d] 9 := by rw [hw0]; have := (Blk.new ((w.alloc (.cells #[.pointer (some ⟨ad, 0, none⟩)] 23)).alloc (.cells #[.string s] 9)) #[.string d] 9); simpa using this
  have CR := Lib.hid (dfind_off (h.below hb0) ho s); have HB := Lib.hid hb0; have HI := Lib.hid h.is
  have x0 := k0.cell 0 _ rfl; have x1 := k1.cell 0 _ rfl; have x2 := k2.cell 0 _ rfl
  clear h hb0 k0 k1 k2
  subst hw0
  go_enter Tryz.func21, Tryz.ntmps21
  go_wp2_with (go_at_call 43; refine CR.out.mono ?_; rintro e w1 ⟨rfl, hb1⟩)
  go_ret
  exact upd_same HI.out (HB.out.trans (hb1.mono HB.out.size)) _
set_option maxRecDepth 100000 in
set_option maxHeartbeats 800000 in
theorem drename_no (h : DkM w ad bm an af Sn Sf (idsK D.L) blk D.tp.length D) (s : ByteArray) (hs : s.size ≤ maxLen) (d : ByteArray) (hd : d.size ≤ maxLen) (hL : okL 500 D.L) (ho : D.fu.off = false) (hf : findE (nowL D.L) s = none) :
    Calls Tryz.prog 21 #[.pointer (some ⟨ad, 0, none⟩), .string s, .string d] w (UpdK w (dkS ad bm Sn Sf (idsK D.L) blk) ⟨ad, 0, none⟩ D (.int .i64 8)) := by
  obtain ⟨w0, hw0⟩ : ∃ w0, w0 = ((w.alloc (.cells #[.pointer (some ⟨ad, 0, none⟩)] 23)).alloc (.cells #[.string s] 9)).alloc (.cells #[.string d] 9) := ⟨_, rfl⟩
  have hb0 : Below w.heap.size w w0 := by rw [hw0]; exact (((Below.refl _ w).alloc (by simp; try omega) _).alloc (by simp; try omega) _).alloc (by simp; try omega) _
  have k0 : Blk w0 w.heap.size #[.pointer (some ⟨ad, 0, none⟩)] 23 := by rw [hw0]; have := (((Blk.new w #[.pointer (some ⟨ad, 0, none⟩)] 23).alloc (.cells #[.string s] 9)).alloc (.cells #[.string d] 9)); simpa using this
  have k1 : Blk w0 (w.heap.size + 1) #[.string s] 9 := by rw [hw0]; have := ((Blk.new (w.alloc (.cells #[.pointer (some ⟨ad, 0, none⟩)] 23)) #[.string s] 9).alloc (.cells #[.string d] 9)); simpa using this
  have k2 : Blk w0 (w.heap.size + 2) #[.string d] 9 := by rw [hw0]; have := (Blk.new ((w.alloc (.cells #[.pointer (some ⟨ad, 0, none⟩)] 23)).alloc (.cells #[.string s] 9)) #[.string d] 9); simpa using this
  have CR := Lib.hid (dfind_no (h.below hb0) hL ho s hs hf); have HB := Lib.hid hb0; have HI := Lib.hid h.is
  have x0 := k0.cell 0 _ rfl; have x1 := k1.cell 0 _ rfl; have x2 := k2.cell 0 _ rfl
  clear h hb0 k0 k1 k2
  subst hw0
  go_enter Tryz.func21, Tryz.ntmps21
  go_wp2_with (go_at_call 43; refine CR.out.mono ?_; rintro e w1 ⟨rfl, hb1⟩)
  go_ret
  exact upd_same HI.out (HB.out.trans (hb1.mono HB.out.size)) _
set_option maxRecDepth 100000 in
set_option maxHeartbeats 800000 in
theorem drename_bad (h : DkM w ad bm an af Sn Sf (idsK D.L) blk D.tp.length D) (s : ByteArray) (hs : s.size ≤ maxLen) (d : ByteArray) (hd : d.size ≤ maxLen) (hD : D.ok 199) (ho : D.fu.off = false) {n : Int} (hf : findE (nowL D.L) s = some n) (ht : mayB d.data.toList = false) :
    Calls Tryz.prog 21 #[.pointer (some ⟨ad, 0, none⟩), .string s, .string d] w (UpdK w (dkS ad bm Sn Sf (idsK D.L) blk) ⟨ad, 0, none⟩ D (.int .i64 7)) := by
  obtain ⟨w0, hw0⟩ : ∃ w0, w0 = ((w.alloc (.cells #[.pointer (some ⟨ad, 0, none⟩)] 23)).alloc (.cells #[.string s] 9)).alloc (.cells #[.string d] 9) := ⟨_, rfl⟩
  have hb0 : Below w.heap.size w w0 := by rw [hw0]; exact (((Below.refl _ w).alloc (by simp; try omega) _).alloc (by simp; try omega) _).alloc (by simp; try omega) _
  have k0 : Blk w0 w.heap.size #[.pointer (some ⟨ad, 0, none⟩)] 23 := by rw [hw0]; have := (((Blk.new w #[.pointer (some ⟨ad, 0, none⟩)] 23).alloc (.cells #[.string s] 9)).alloc (.cells #[.string d] 9)); simpa using this
  have k1 : Blk w0 (w.heap.size + 1) #[.string s] 9 := by rw [hw0]; have := ((Blk.new (w.alloc (.cells #[.pointer (some ⟨ad, 0, none⟩)] 23)) #[.string s] 9).alloc (.cells #[.string d] 9)); simpa using this
  have k2 : Blk w0 (w.heap.size + 2) #[.string d] 9 := by rw [hw0]; have := (Blk.new ((w.alloc (.cells #[.pointer (some ⟨ad, 0, none⟩)] 23)).alloc (.cells #[.string s] 9)) #[.string d] 9); simpa using this
  have hlt := h.lt
  have CR := Lib.hid (dfind_yes (h.below hb0) (Dsk.okL hD) ho s hs hf); have HB := Lib.hid hb0; have HI := Lib.hid h; have HD := Lib.hid hD; have HLT := Lib.hid hlt
  have K0 := Lib.hid k0; have K1 := Lib.hid k1; have K2 := Lib.hid k2
  have x0 := k0.cell 0 _ rfl; have x1 := k1.cell 0 _ rfl; have x2 := k2.cell 0 _ rfl
  have CT := Lib.hid (fun w => tmay_any d hd w); have HT := Lib.hid ht
  clear h hb0 k0 k1 k2 hD hf hlt ht
  subst hw0
  go_enter Tryz.func21, Tryz.ntmps21
  go_wp2_with fail
  refine CR.out.mono ?_
  rintro e w1 ⟨rfl, hb1⟩
  have hbb := HB.out.trans (hb1.mono HB.out.size)
  have m0 := K0.out.onto hb1
  have m1 := K1.out.onto hb1
  have m2 := K2.out.onto hb1
  have y0 := m0.cell 0 _ rfl; have y1 := m1.cell 0 _ rfl; have y2 := m2.cell 0 _ rfl; have M0 := Lib.hid m0; have M1 := Lib.hid m1; have M2 := Lib.hid m2
  have CT1 := CT.out w1
  rw [HT.out] at CT1
  have CT2 := Lib.hid CT1; have HBA := Lib.hid hbb
  clear hb1 hbb CT1 x0 x1 x2 m0 m1 m2
  go_wp2_with fail
  refine CT2.out.mono ?_
  rintro e w2 ⟨rfl, hb2⟩
  have hbb := HBA.out.trans (hb2.mono HBA.out.size)
  have m0 := M0.out.onto hb2
  have m1 := M1.out.onto hb2
  have m2 := M2.out.onto hb2
  have HBB := Lib.hid hbb
  clear hb2 hbb m0 m1 m2
  go_wp2
  go_ret
  exact upd_same HI.out.is HBB.out _
set_option maxRecDepth 100000 in
set_option maxHeartbeats 800000 in
theorem drename_put (h : DkM w ad bm an af Sn Sf (idsK D.L) blk D.tp.length D) (s : ByteArray) (hs : s.size ≤ maxLen) (d : ByteArray) (hd : d.size ≤ maxLen) (hD : D.ok 199) (ho : D.fu.off = false) {n : Int} (hf : findE (nowL D.L) s = some n) (ht : mayB d.data.toList = true) :
    Calls Tryz.prog 21 #[.pointer (some ⟨ad, 0, none⟩), .string s, .string d] w (UpdK w (dkS ad bm Sn Sf (idsK D.L) blk) ⟨ad, 0, none⟩ (Dsk.then (D.ask false) (fun E => { E with L := moveF E.L s d })).1 (.int .i64 (Dsk.then (D.ask false) (fun E => { E with L := moveF E.L s d })).2)) := by
  obtain ⟨w0, hw0⟩ : ∃ w0, w0 = ((w.alloc (.cells #[.pointer (some ⟨ad, 0, none⟩)] 23)).alloc (.cells #[.string s] 9)).alloc (.cells #[.string d] 9) := ⟨_, rfl⟩
  have hb0 : Below w.heap.size w w0 := by rw [hw0]; exact (((Below.refl _ w).alloc (by simp; try omega) _).alloc (by simp; try omega) _).alloc (by simp; try omega) _
  have k0 : Blk w0 w.heap.size #[.pointer (some ⟨ad, 0, none⟩)] 23 := by rw [hw0]; have := (((Blk.new w #[.pointer (some ⟨ad, 0, none⟩)] 23).alloc (.cells #[.string s] 9)).alloc (.cells #[.string d] 9)); simpa using this
  have k1 : Blk w0 (w.heap.size + 1) #[.string s] 9 := by rw [hw0]; have := ((Blk.new (w.alloc (.cells #[.pointer (some ⟨ad, 0, none⟩)] 23)) #[.string s] 9).alloc (.cells #[.string d] 9)); simpa using this
  have k2 : Blk w0 (w.heap.size + 2) #[.string d] 9 := by rw [hw0]; have := (Blk.new ((w.alloc (.cells #[.pointer (some ⟨ad, 0, none⟩)] 23)).alloc (.cells #[.string s] 9)) #[.string d] 9); simpa using this
  have hlt := h.lt
  have CR := Lib.hid (dfind_yes (h.below hb0) (Dsk.okL hD) ho s hs hf); have HB := Lib.hid hb0; have HI := Lib.hid h; have HD := Lib.hid hD; have HLT := Lib.hid hlt
  have K0 := Lib.hid k0; have K1 := Lib.hid k1; have K2 := Lib.hid k2
  have x0 := k0.cell 0 _ rfl; have x1 := k1.cell 0 _ rfl; have x2 := k2.cell 0 _ rfl
  have CT := Lib.hid (fun w => tmay_any d hd w); have HT := Lib.hid ht
  obtain ⟨⟨X, c⟩, hx⟩ : ∃ x, Dsk.then (D.ask false) (fun E => { E with L := moveF E.L s d }) = x := ⟨_, rfl⟩
  have HX := Lib.hid hx
  rw [hx]
  clear hx
  clear h hb0 k0 k1 k2 hD hf hlt ht
  subst hw0
  go_enter Tryz.func21, Tryz.ntmps21
  go_wp2_with fail
  refine CR.out.mono ?_
  rintro e w1 ⟨rfl, hb1⟩
  have hbb := HB.out.trans (hb1.mono HB.out.size)
  have m0 := K0.out.onto hb1
  have m1 := K1.out.onto hb1
  have m2 := K2.out.onto hb1
  have y0 := m0.cell 0 _ rfl; have y1 := m1.cell 0 _ rfl; have y2 := m2.cell 0 _ rfl; have M0 := Lib.hid m0; have M1 := Lib.hid m1; have M2 := Lib.hid m2
  have CT1 := CT.out w1
  rw [HT.out] at CT1
  have CT2 := Lib.hid CT1; have HBA := Lib.hid hbb
  clear hb1 hbb CT1 x0 x1 x2 m0 m1 m2
  go_wp2_with fail
  refine CT2.out.mono ?_
  rintro e w2 ⟨rfl, hb2⟩
  have hbb := HBA.out.trans (hb2.mono HBA.out.size)
  have m0 := M0.out.onto hb2
  have m1 := M1.out.onto hb2
  have m2 := M2.out.onto hb2
  have CP := dput_of (g := 75) (pre := #[]) (post := #[.pointer (some ⟨w.heap.size, 0, none⟩), .pointer (some ⟨w.heap.size + 1, 0, none⟩), .pointer (some ⟨w.heap.size + 2, 0, none⟩)]) (HI.out.below hbb) HD.out eRename (fun E => { E with L := moveF E.L s d }) w.heap.size hbb.size (fun w3 Sf1 h3 ha3 _ => by
    have no : ∀ b, w.heap.size ≤ b → b ∉ dkS ad bm Sn Sf (idsK D.L) blk := fun b hb g => by have := HLT.out b g; omega
    have n0 : w.heap.size ≤ w.heap.size := by omega
    have n1 : w.heap.size ≤ w.heap.size + 1 := by omega
    have n2 : w.heap.size ≤ w.heap.size + 2 := by omega
    refine (drename_c (D := (D.ask false).1) h3 (Dsk.okL (D := D) HD.out) s hs d hd ((ha3.cell (p := ⟨w.heap.size, 0, none⟩) m0.lt (no _ n0)).trans (m0.cell 0 _ rfl)) ((ha3.cell (p := ⟨w.heap.size + 1, 0, none⟩) m1.lt (no _ n1)).trans (m1.cell 0 _ rfl)) ((ha3.cell (p := ⟨w.heap.size + 2, 0, none⟩) m2.lt (no _ n2)).trans (m2.cell 0 _ rfl))).mono ?_
    rintro e w4 ⟨rfl, S', hI, hA, hS⟩
    exact ⟨rfl, S', hI, hA, fun b hb => (hS b hb).imp id fun k => Nat.le_trans (Nat.le_trans hbb.size ha3.size) k⟩)
  rw [HX.out] at CP
  have CP := Lib.hid CP; have HBC := Lib.hid hbb
  have z0 := m0.cell 0 _ rfl; have z1 := m1.cell 0 _ rfl; have z2 := m2.cell 0 _ rfl
  clear hb2 hbb m0 m1 m2
  go_wp2_with (go_at_call 39; refine CP.out.mono ?_; rintro e w9 ⟨rfl, hE⟩; have HE := Lib.hid hE; clear hE)
  go_ret
  exact upd_from HBC.out ⟨rfl, HE.out⟩
end
theorem dkremove_any {w : World} {S : List Nat} {a : Addr} {D : Dsk} (h : IsDk w S a D) (hD : D.ok 199) (s : ByteArray) (hs : s.size ≤ maxLen) :
    Calls Tryz.prog 22 #[.pointer (some a), .string s] w (UpdK w S a (D.remove s).1 (.int .i64 (D.remove s).2)) := by
  obtain ⟨ad, bm, an, af, Sn, Sf, blk, rfl, rfl, k⟩ := h.out
  unfold Dsk.remove
  cases ho : D.fu.off with
  | true => rw [if_pos rfl]; exact dremove_off k s hs ho
  | false =>
    rw [if_neg (by simp)]
    by_cases hc : D.id s = 0
    · rw [if_pos hc]; exact dremove_no k s hs (Dsk.okL hD) ho (id_none hD hc)
    · rw [if_neg hc]; exact dremove_put k s hs hD ho (id_some hD hc).1
theorem dkrename_any {w : World} {S : List Nat} {a : Addr} {D : Dsk} (h : IsDk w S a D) (hD : D.ok 199) (s d : ByteArray) (hs : s.size ≤ maxLen) (hd : d.size ≤ maxLen) :
    Calls Tryz.prog 21 #[.pointer (some a), .string s, .string d] w (UpdK w S a (D.rename s d).1 (.int .i64 (D.rename s d).2)) := by
  obtain ⟨ad, bm, an, af, Sn, Sf, blk, rfl, rfl, k⟩ := h.out
  unfold Dsk.rename
  cases ho : D.fu.off with
  | true => rw [if_pos rfl]; exact drename_off k s hs d hd ho
  | false =>
    rw [if_neg (by simp)]
    by_cases hc : D.id s = 0
    · rw [if_pos hc]; exact drename_no k s hs d hd (Dsk.okL hD) ho (id_none hD hc)
    · rw [if_neg hc]
      cases ht : mayB d.data.toList with
      | false => rw [if_pos rfl]; exact drename_bad k s hs d hd hD ho (id_some hD hc).1 ht
      | true => rw [if_neg (by simp)]; exact drename_put k s hs d hd hD ho (id_some hD hc).1 ht
end Go.Proofs.YtfgecjlccngddaaGreat
namespace Go.Proofs.YtfgecjlccngddaaGreat
set_option linter.unusedSimpArgs false
set_option linter.unusedVariables false
open Go.RowKit
set_option linter.unusedVariables false

theorem ids_now {L : List (List Ent)} (h : L ≠ []) : ∀ i ∈ idsK [nowL L], i ∈ idsK L := fun i hi => by
  obtain ⟨l, hl, e, he, rfl⟩ := (mem_idsK _ i).1 hi
  rw [List.mem_singleton.1 hl] at he
  exact (mem_idsK _ _).2 ⟨_, nowL_mem h, e, he, rfl⟩
theorem tape_end {w1 w2 : World} {ad bm : Nat} {an af : Addr} {Sn Sf : List Nat} {blk : Int → Nat} {D : Dsk} {i : Int} {k n : ByteArray} (h : DkM w1 ad bm an af Sn Sf (idsK D.L) blk D.tp.length D) (hi : i ∈ idsK D.L)
    (ht : Tap w2 (blk i) k n) (hA : Apart [blk i] w1 w2) : ∃ S', IsDk w2 S' ⟨ad, 0, none⟩ (D.set i ⟨k, n⟩) ∧ Apart (dkS ad bm Sn Sf (idsK D.L) blk) w1 w2 ∧ ∀ b ∈ S', b ∈ dkS ad bm Sn Sf (idsK D.L) blk ∨ w1.heap.size ≤ b := by
  have h2 := h.onTape hi ht hA
  have hl : (D.set i ⟨k, n⟩).tp.length = D.tp.length := List.length_set
  have h3 : DkM w2 ad bm an af Sn Sf (idsK (D.set i ⟨k, n⟩).L) blk (D.set i ⟨k, n⟩).tp.length (D.set i ⟨k, n⟩) := by rw [hl]; exact h2
  exact ⟨_, h3.is, hA.more (fun b hb => by rw [List.mem_singleton.1 hb]; exact mem_dkS.2 (.inr (.inr (.inr (.inr ⟨i, hi, rfl⟩))))), fun b hb => .inl hb⟩
section
variable {w w' : World} {ad bm : Nat} {an af : Addr} {Sn Sf : List Nat} {ids : List Int} {blk : Int → Nat} {born : Nat} {D : Dsk}
set_option maxRecDepth 100000 in
set_option maxHeartbeats 800000 in
theorem dsyncall_c {b0 : Nat} (h : DkM w ad bm an af Sn Sf (idsK D.L) blk D.tp.length D) (hL : okL 500 D.L) (hi : (idsK D.L).length ≤ 1000000) (c0 : w.cell? ⟨b0, 0, none⟩ = some (.pointer (some ⟨ad, 0, none⟩))) (hb0 : b0 ∉ Sn) :
    Calls Tryz.prog 73 #[.pointer (some ⟨b0, 0, none⟩)] w (UpdB w.heap.size w (dkS ad bm Sn Sf (idsK D.L) blk) ⟨ad, 0, none⟩ { D with L := [nowL D.L] } (.tuple #[])) := by
  have CF := Lib.hid (fosync_any h.fold hL)
  obtain ⟨d0, d1, d2, d3, d4, d5⟩ := h.cells
  have hm := hL.2.2 _ (nowL_mem hL.1)
  have hL2 : okL 500 [nowL D.L] := ⟨by simp, by simp, fun l hl => by rw [List.mem_singleton.1 hl]; exact hm⟩
  have hsub := ids_now hL.1
  have hi2 : (idsK [nowL D.L]).length ≤ 1000000 := by
    have := idsK_len [nowL D.L] 500 (fun l hl => by rw [List.mem_singleton.1 hl]; exact hm) 1 (by simp)
    rw [List.take_of_length_le (by simp)] at this
    omega
  have hlb := lt_of_cell c0
  have H := Lib.hid h; have HL2 := Lib.hid hL2; have HS := Lib.hid hsub; have HI2 := Lib.hid hi2
  clear h hL hm hL2 hsub hi2 hi
  go_enter Tryz.func73, Tryz.ntmps73
  go_wp2_with fail
  refine CF.out.mono ?_
  rintro e w2 ⟨rfl, Sn', hF, hA, hS⟩
  have e0 := (hA.cell (p := ⟨b0, 0, none⟩) hlb hb0).trans c0
  have h2 := H.out.onFold hF hA hS
  have CG := Lib.hid (dforget_b h2 HL2.out HI2.out HS.out); have HA := Lib.hid hA; have HSS := Lib.hid hS
  clear hF hA hS h2
  go_wp2_with fail
  refine CG.out.mono ?_
  rintro e w3 ⟨rfl, h3, ha3⟩
  have hE : ∃ S', IsDk w3 S' ⟨ad, 0, none⟩ { D with L := [nowL D.L] } ∧ Apart (dkS ad bm Sn Sf (idsK D.L) blk) w w3 ∧ ∀ b ∈ S', b ∈ dkS ad bm Sn Sf (idsK D.L) blk ∨ w.heap.size ≤ b := by
    refine ⟨_, DkM.is (D := { D with L := [nowL D.L] }) h3, (HA.out.more fun b hb => mem_dkS.2 (.inr (.inr (.inl hb)))).trans ha3 (fun x hx => .inl (by rw [List.mem_singleton.1 hx]; exact mem_dkS.2 (.inr (.inl rfl)))), fun b hb => ?_⟩
    rcases mem_dkS.1 hb with g | g | g | g | ⟨i, hi, g⟩
    · exact .inl (mem_dkS.2 (.inl g))
    · exact .inl (mem_dkS.2 (.inr (.inl g)))
    · exact (HSS.out b g).imp (fun k => mem_dkS.2 (.inr (.inr (.inl k)))) id
    · exact .inl (mem_dkS.2 (.inr (.inr (.inr (.inl g)))))
    · exact .inl (mem_dkS.2 (.inr (.inr (.inr (.inr ⟨i, HS.out i hi, g⟩)))))
  have HE := Lib.hid hE
  clear hE h3 ha3
  go_wp2
  go_end0
  exact ⟨rfl, HE.out⟩
theorem eSyncAll : ∀ args w, (callFunc 73 args).run Tryz.prog w = .ok (.enter 73 args) w := enters_of Tryz.func73 (by kernel_rfl) rfl
set_option maxRecDepth 100000 in
set_option maxHeartbeats 800000 in
theorem dsyncall_off (h : DkM w ad bm an af Sn Sf (idsK D.L) blk D.tp.length D) (ho : D.fu.off = true) :
    Calls Tryz.prog 20 #[.pointer (some ⟨ad, 0, none⟩)] w (UpdK w (dkS ad bm Sn Sf (idsK D.L) blk) ⟨ad, 0, none⟩ D (.int .i64 14)) := by
  obtain ⟨w0, hw0⟩ : ∃ w0, w0 = w.alloc (.cells #[.pointer (some ⟨ad, 0, none⟩)] 23) := ⟨_, rfl⟩
  have hb0 : Below w.heap.size w w0 := by rw [hw0]; exact (Below.refl _ w).alloc (Nat.le_refl _) _
  have k0 : Blk w0 w.heap.size #[.pointer (some ⟨ad, 0, none⟩)] 23 := by rw [hw0]; exact Blk.new w _ _
  have CR := Lib.hid (dready_off (h.below hb0) ho); have HB := Lib.hid hb0; have HI := Lib.hid h.is
  have x0 := k0.cell 0 _ rfl
  clear h hb0 k0
  subst hw0
  go_enter Tryz.func20, Tryz.ntmps20
  go_wp2_with (go_at_call 37; refine CR.out.mono ?_; rintro e w1 ⟨rfl, hb1⟩)
  go_ret
  exact upd_same HI.out (HB.out.trans (hb1.mono HB.out.size)) _
set_option maxRecDepth 100000 in
set_option maxHeartbeats 800000 in
theorem dsyncall_on (h : DkM w ad bm an af Sn Sf (idsK D.L) blk D.tp.length D) (hD : D.ok 199) (ho : D.fu.off = false) :
    Calls Tryz.prog 20 #[.pointer (some ⟨ad, 0, none⟩)] w (UpdK w (dkS ad bm Sn Sf (idsK D.L) blk) ⟨ad, 0, none⟩ (Dsk.then (D.ask true) (fun E => { E with L := [nowL E.L] })).1 (.int .i64 (Dsk.then (D.ask true) (fun E => { E with L := [nowL E.L] })).2)) := by
  obtain ⟨w0, hw0⟩ : ∃ w0, w0 = w.alloc (.cells #[.pointer (some ⟨ad, 0, none⟩)] 23) := ⟨_, rfl⟩
  have hb0 : Below w.heap.size w w0 := by rw [hw0]; exact (Below.refl _ w).alloc (Nat.le_refl _) _
  have k0 : Blk w0 w.heap.size #[.pointer (some ⟨ad, 0, none⟩)] 23 := by rw [hw0]; exact Blk.new w _ _
  have hlt := h.lt
  have CR := Lib.hid (dready_on (h.below hb0) ho); have HB := Lib.hid hb0; have HI := Lib.hid h; have HD := Lib.hid hD; have HLT := Lib.hid hlt; have K0 := Lib.hid k0
  have x0 := k0.cell 0 _ rfl
  obtain ⟨⟨X, c⟩, hx⟩ : ∃ x, Dsk.then (D.ask true) (fun E => { E with L := [nowL E.L] }) = x := ⟨_, rfl⟩
  have HX := Lib.hid hx
  rw [hx]
  clear h hb0 k0 hD hlt hx
  subst hw0
  go_enter Tryz.func20, Tryz.ntmps20
  go_wp2_with fail
  refine CR.out.mono ?_
  rintro e w1 ⟨rfl, hb1⟩
  have hbb := HB.out.trans (hb1.mono HB.out.size)
  have m0 := K0.out.onto hb1
  have h1 := (HI.out.below hbb).drew
  have CP := dask_of (g := 73) (pre := #[]) (post := #[.pointer (some ⟨w.heap.size, 0, none⟩)]) true h1 HD.out eSync eSyncAll (dsync_fuse h1 HD.out.2.2.2.2.2.1) (fun E => { E with L := [nowL E.L] }) w.heap.size (w := w1.drew) hbb.size (fun w3 Sf1 h3 ha3 _ => by
    have no : ∀ b, w.heap.size ≤ b → b ∉ dkS ad bm Sn Sf (idsK D.L) blk := fun b hb g => by have := HLT.out b g; omega
    refine (dsyncall_c (D := (D.ask true).1) h3 (Dsk.okL (D := D) HD.out) (ids_few (M := 199) (D := D) HD.out (by omega)) ((ha3.cell (p := ⟨w.heap.size, 0, none⟩) m0.lt (no _ (Nat.le_refl _))).trans (m0.cell 0 _ rfl)) (fun g => no _ (Nat.le_refl _) (mem_dkS.2 (.inr (.inr (.inl g)))))).mono ?_
    rintro e w4 ⟨rfl, S', hI, hA, hS⟩
    exact ⟨rfl, S', hI, hA, fun b hb => (hS b hb).imp id fun k => Nat.le_trans (Nat.le_trans hbb.size ha3.size) k⟩)
  rw [HX.out] at CP
  have CP := Lib.hid CP; have HBC := Lib.hid hbb
  have z0 := m0.cell 0 _ rfl
  obtain ⟨d0, d1, d2, d3, d4, d5⟩ := h1.cells
  clear hb1 hbb m0 h1 x0
  go_wp2_with fail
  go_still_tail 7, (by kernel_rfl)
  change wpList _ _ _ _ _ w1.drew
  go_wp2_with (go_at_call 70; refine CP.out.mono ?_; rintro e w9 ⟨rfl, hE⟩; have HE := Lib.hid hE; clear hE)
  go_ret
  exact upd_from HBC.out.drew ⟨rfl, HE.out⟩
theorem eTSync : ∀ args w, (callFunc 72 args).run Tryz.prog w = .ok (.enter 72 args) w := enters_of Tryz.func72 (by kernel_rfl) rfl
set_option maxRecDepth 100000 in
set_option maxHeartbeats 800000 in
theorem dsync_off (h : DkM w ad bm an af Sn Sf (idsK D.L) blk D.tp.length D) (s : ByteArray) (ho : D.fu.off = true) :
    Calls Tryz.prog 19 #[.pointer (some ⟨ad, 0, none⟩), .string s] w (UpdK w (dkS ad bm Sn Sf (idsK D.L) blk) ⟨ad, 0, none⟩ D (.int .i64 14)) := by
  have CR := Lib.hid (dfind_off h ho s); have HI := Lib.hid h.is
  clear h
  go_enter Tryz.func19, Tryz.ntmps19
  go_wp2_with (go_at_call 43; refine CR.out.mono ?_; rintro e w1 ⟨rfl, hb1⟩)
  go_ret
  exact upd_same HI.out hb1 _
set_option maxRecDepth 100000 in
set_option maxHeartbeats 800000 in
theorem dsync_no (h : DkM w ad bm an af Sn Sf (idsK D.L) blk D.tp.length D) (hL : okL 500 D.L) (s : ByteArray) (hs : s.size ≤ maxLen) (ho : D.fu.off = false) (hf : findE (nowL D.L) s = none) :
    Calls Tryz.prog 19 #[.pointer (some ⟨ad, 0, none⟩), .string s] w (UpdK w (dkS ad bm Sn Sf (idsK D.L) blk) ⟨ad, 0, none⟩ D (.int .i64 8)) := by
  have CR := Lib.hid (dfind_no h hL ho s hs hf); have HI := Lib.hid h.is
  clear h
  go_enter Tryz.func19, Tryz.ntmps19
  go_wp2_with (go_at_call 43; refine CR.out.mono ?_; rintro e w1 ⟨rfl, hb1⟩)
  go_ret
  exact upd_same HI.out hb1 _
set_option maxRecDepth 100000 in
set_option maxHeartbeats 800000 in
theorem dsync_yes (h : DkM w ad bm an af Sn Sf (idsK D.L) blk D.tp.length D) (hD : D.ok 199) (s : ByteArray) (hs : s.size ≤ maxLen) (ho : D.fu.off = false) {n : Int} (hf : findE (nowL D.L) s = some n) (hn : n ∈ idsK D.L) :
    Calls Tryz.prog 19 #[.pointer (some ⟨ad, 0, none⟩), .string s] w (UpdK w (dkS ad bm Sn Sf (idsK D.L) blk) ⟨ad, 0, none⟩ (Dsk.then (D.ask true) (fun E => E.set n ⟨(D.t n).n, (D.t n).n⟩)).1 (.int .i64 (Dsk.then (D.ask true) (fun E => E.set n ⟨(D.t n).n, (D.t n).n⟩)).2)) := by
  have CR := Lib.hid (dfind_yes h (Dsk.okL hD) ho s hs hf); have HI := Lib.hid h; have HD := Lib.hid hD; have HN := Lib.hid hn
  obtain ⟨⟨X, c⟩, hx⟩ : ∃ x, Dsk.then (D.ask true) (fun E => E.set n ⟨(D.t n).n, (D.t n).n⟩) = x := ⟨_, rfl⟩
  have HX := Lib.hid hx
  rw [hx]
  clear h hD hf hn hx
  go_enter Tryz.func19, Tryz.ntmps19
  go_wp2_with fail
  refine CR.out.mono ?_
  rintro e w1 ⟨rfl, hb1⟩
  have h1 := (HI.out.below hb1).drew
  have hlook := (HI.out.below hb1).map.look HN.out
  have hlook2 := h1.map.look HN.out
  obtain ⟨d0, d1, d2, d3, d4, d5⟩ := (HI.out.below hb1).cells
  have CP := dask_of (g := 72) (pre := #[.pointer (some ⟨blk n, 0, none⟩)]) (post := #[]) true h1 HD.out eSync eTSync (dsync_fuse h1 HD.out.2.2.2.2.2.1) (fun E => E.set n ⟨(D.t n).n, (D.t n).n⟩) w.heap.size (w := w1.drew) hb1.size (fun w3 Sf1 h3 ha3 _ => by
    refine Calls.mono (R := UpdT w3 (blk n) (D.t n).n (D.t n).n (.tuple #[])) (tsync_yes (h3.taps n HN.out)) ?_
    rintro e w4 ⟨rfl, ht, hA⟩
    obtain ⟨S', hI, hA2, hS⟩ := tape_end (D := (D.ask true).1) h3 HN.out ht hA
    exact ⟨rfl, S', hI, hA2, fun b hb => (hS b hb).imp id fun k => Nat.le_trans (Nat.le_trans hb1.size ha3.size) k⟩)
  rw [HX.out] at CP
  have CP := Lib.hid CP; have HB1 := Lib.hid hb1
  clear hb1 h1
  go_wp2_with fail
  go_still_tail 13, (by kernel_rfl)
  change wpList _ _ _ _ _ w1.drew
  go_wp2_with (go_at_call 70; refine CP.out.mono ?_; rintro e w9 ⟨rfl, hE⟩; have HE := Lib.hid hE; clear hE)
  go_ret
  exact upd_from HB1.out.drew ⟨rfl, HE.out⟩
theorem tnow_yes {w : World} {b : Nat} {k n : ByteArray} (h : Tap w b k n) : Calls Tryz.prog 79 #[.pointer (some ⟨b, 0, none⟩)] w fun e w' => e = .returned (.string n) ∧ Below w.heap.size w w' :=
  (tnow_v (views_yes h)).mono fun _ _ ⟨he, hw⟩ => ⟨he, hw ▸ (Below.refl _ _).drew⟩
set_option maxRecDepth 100000 in
set_option maxHeartbeats 800000 in
theorem dread_off (h : DkM w ad bm an af Sn Sf ids blk born D) (s : ByteArray) (ho : D.fu.off = true) :
    Calls Tryz.prog 23 #[.pointer (some ⟨ad, 0, none⟩), .string s] w fun e w' => e = .returned (.tuple #[.string ByteArray.empty, .int .i64 14]) ∧ Below w.heap.size w w' := by
  have CR := Lib.hid (dfind_off h ho s)
  clear h
  go_enter Tryz.func23, Tryz.ntmps23
  go_wp2_with (go_at_call 43; refine CR.out.mono ?_; rintro e w1 ⟨rfl, hb1⟩)
  go_ret2
  exact ⟨rfl, hb1⟩
set_option maxRecDepth 100000 in
set_option maxHeartbeats 800000 in
theorem dread_no (h : DkM w ad bm an af Sn Sf ids blk born D) (hL : okL 500 D.L) (s : ByteArray) (hs : s.size ≤ maxLen) (ho : D.fu.off = false) (hf : findE (nowL D.L) s = none) :
    Calls Tryz.prog 23 #[.pointer (some ⟨ad, 0, none⟩), .string s] w fun e w' => e = .returned (.tuple #[.string ByteArray.empty, .int .i64 8]) ∧ Below w.heap.size w w' := by
  have CR := Lib.hid (dfind_no h hL ho s hs hf)
  clear h
  go_enter Tryz.func23, Tryz.ntmps23
  go_wp2_with (go_at_call 43; refine CR.out.mono ?_; rintro e w1 ⟨rfl, hb1⟩)
  go_ret2
  exact ⟨rfl, hb1⟩
set_option maxRecDepth 100000 in
set_option maxHeartbeats 800000 in
theorem dread_yes (h : DkM w ad bm an af Sn Sf ids blk born D) (hL : okL 500 D.L) (s : ByteArray) (hs : s.size ≤ maxLen) (ho : D.fu.off = false) {n : Int} (hf : findE (nowL D.L) s = some n) (hn : n ∈ ids) :
    Calls Tryz.prog 23 #[.pointer (some ⟨ad, 0, none⟩), .string s] w fun e w' => e = .returned (.tuple #[.string (D.t n).n, .int .i64 0]) ∧ Below w.heap.size w w' := by
  have CR := Lib.hid (dfind_yes h hL ho s hs hf); have H := Lib.hid h; have HN := Lib.hid hn
  obtain ⟨x, hx⟩ : ∃ x, D.t n = x := ⟨_, rfl⟩
  have HX := Lib.hid hx
  rw [hx]
  clear h hL hf hn hx
  go_enter Tryz.func23, Tryz.ntmps23
  go_wp2_with fail
  refine CR.out.mono ?_
  rintro e w1 ⟨rfl, hb1⟩
  have hlook := (H.out.below hb1).map.look HN.out
  have CN := tnow_yes ((H.out.below hb1).taps n HN.out)
  rw [HX.out] at CN
  have CN := Lib.hid CN
  obtain ⟨d0, d1, d2, d3, d4, d5⟩ := (H.out.below hb1).cells
  go_wp2_with (go_at_call 79; refine CN.out.mono ?_; rintro e w2 ⟨rfl, hb2⟩)
  go_ret2
  exact ⟨rfl, hb1.trans (hb2.mono hb1.size)⟩
end
theorem dksyncall_any {w : World} {S : List Nat} {a : Addr} {D : Dsk} (h : IsDk w S a D) (hD : D.ok 199) :
    Calls Tryz.prog 20 #[.pointer (some a)] w (UpdK w S a (D.syncAll).1 (.int .i64 (D.syncAll).2)) := by
  obtain ⟨ad, bm, an, af, Sn, Sf, blk, rfl, rfl, k⟩ := h.out
  unfold Dsk.syncAll
  cases ho : D.fu.off with
  | true => rw [if_pos rfl]; exact dsyncall_off k ho
  | false => rw [if_neg (by simp)]; exact dsyncall_on k hD ho
theorem dksync_any {w : World} {S : List Nat} {a : Addr} {D : Dsk} (h : IsDk w S a D) (hD : D.ok 199) (s : ByteArray) (hs : s.size ≤ maxLen) :
    Calls Tryz.prog 19 #[.pointer (some a), .string s] w (UpdK w S a (D.sync s).1 (.int .i64 (D.sync s).2)) := by
  obtain ⟨ad, bm, an, af, Sn, Sf, blk, rfl, rfl, k⟩ := h.out
  unfold Dsk.sync
  cases ho : D.fu.off with
  | true => rw [if_pos rfl]; exact dsync_off k s ho
  | false =>
    rw [if_neg (by simp)]
    by_cases hc : D.id s = 0
    · rw [if_pos hc]; exact dsync_no k (Dsk.okL hD) s hs ho (id_none hD hc)
    · rw [if_neg hc]; exact dsync_yes k hD s hs ho (id_some hD hc).1 (id_some hD hc).2
theorem dkread_any {w : World} {S : List Nat} {a : Addr} {D : Dsk} (h : IsDk w S a D) (hD : D.ok 199) (s : ByteArray) (hs : s.size ≤ maxLen) :
    Calls Tryz.prog 23 #[.pointer (some a), .string s] w fun e w' => e = .returned (.tuple #[.string (D.read s).1, .int .i64 (D.read s).2]) ∧ Below w.heap.size w w' := by
  obtain ⟨ad, bm, an, af, Sn, Sf, blk, rfl, rfl, k⟩ := h.out
  unfold Dsk.read
  cases ho : D.fu.off with
  | true => rw [if_pos rfl]; exact dread_off k s ho
  | false =>
    rw [if_neg (by simp)]
    by_cases hc : D.id s = 0
    · rw [if_pos hc]; exact dread_no k (Dsk.okL hD) s hs ho (id_none hD hc)
    · rw [if_neg hc]; exact dread_yes k (Dsk.okL hD) s hs ho (id_some hD hc).1 (id_some hD hc).2
theorem dkfree_any {w : World} {S : List Nat} {a : Addr} {D : Dsk} (h : IsDk w S a D) (hD : D.ok 199) :
    Calls Tryz.prog 28 #[.pointer (some a)] w fun e w' => e = .returned (.int .i64 D.free) ∧ Below w.heap.size w w' := by
  obtain ⟨ad, bm, an, af, Sn, Sf, blk, rfl, rfl, k⟩ := h.out
  rw [D.free_fold]
  exact dfree_b k hD (ids_few hD (by omega))
theorem dkup_any {w : World} {S : List Nat} {a : Addr} {D : Dsk} (h : IsDk w S a D) (hD : D.ok 199) :
    Calls Tryz.prog 30 #[.pointer (some a)] w fun e w' => e = .returned (.bool (!D.fu.off)) ∧ Below w.heap.size w w' := by
  obtain ⟨ad, bm, an, af, Sn, Sf, blk, rfl, rfl, k⟩ := h.out
  exact dup_b k
theorem dkcalls_any {w : World} {S : List Nat} {a : Addr} {D : Dsk} (h : IsDk w S a D) (hD : D.ok 199) :
    Calls Tryz.prog 29 #[.pointer (some a)] w fun e w' => e = .returned (.int .i64 D.calls) ∧ Below w.heap.size w w' := by
  obtain ⟨ad, bm, an, af, Sn, Sf, blk, rfl, rfl, k⟩ := h.out
  exact dcalls_b k
theorem Fus.arm_no (f : Fus) (k n : Int) (h : (f.arm k n).2 = false) : (f.arm k n).1 = f := by
  unfold Fus.arm at h ⊢
  by_cases h1 : n < 0
  · rw [if_pos h1]
  · rw [if_neg h1] at h ⊢
    by_cases h2 : k = 0
    · rw [if_pos h2] at h; cases h
    · rw [if_neg h2] at h ⊢
      by_cases h3 : k = 1
      · rw [if_pos h3] at h; cases h
      · rw [if_neg h3] at h ⊢
        by_cases h4 : k = 2
        · rw [if_pos h4] at h; cases h
        · rw [if_neg h4] at h ⊢
          by_cases h5 : k = 3
          · rw [if_pos h5] at h; cases h
          · rw [if_neg h5]
theorem dkfault_any {w : World} {S : List Nat} {a : Addr} {D : Dsk} (h : IsDk w S a D) (hD : D.ok 199) (k n : Int) (h0 : -9223372036854775808 ≤ k ∧ k ≤ 9223372036854775807) (h1 : -9223372036854775808 ≤ n ∧ n ≤ 9223372036854775807) :
    Calls Tryz.prog 26 #[.pointer (some a), .agg #[.int .i64 k, .int .i64 n]] w (UpdK w S a (D.fault k n).1 (.int .i64 (D.fault k n).2)) := by
  obtain ⟨ad, bm, an, af, Sn, Sf, blk, rfl, rfl, m⟩ := h.out
  unfold Dsk.fault
  cases ho : D.fu.off with
  | true =>
    rw [if_pos rfl]
    refine (dfault_off m ho k n).mono ?_
    rintro e w' ⟨rfl, hb⟩
    exact upd_same m.is hb _
  | false =>
    rw [if_neg (by simp)]
    refine (dfault_on m ho k n h1.2).mono ?_
    rintro e w' ⟨rfl, Sf', hm, hA, hS⟩
    have hE := DkM.is (D := { D with fu := (D.fu.arm k n).1 }) hm
    have hA2 := hA.more (fun b hb => mem_dkS.2 (.inr (.inr (.inr (.inl hb)))) : ∀ b ∈ Sf, b ∈ dkS ad bm Sn Sf (idsK D.L) blk)
    cases hr : (D.fu.arm k n).2 with
    | true => rw [if_neg (by simp), if_neg (by simp)]; exact ⟨rfl, _, hE, hA2, ask_S hS⟩
    | false =>
      rw [if_pos rfl, if_pos rfl]
      have e : (D.fu.arm k n).1 = D.fu := D.fu.arm_no k n hr
      rw [e] at hE
      exact ⟨rfl, _, hE, hA2, ask_S hS⟩
end Go.Proofs.YtfgecjlccngddaaGreat
namespace Go.Proofs.YtfgecjlccngddaaGreat
set_option linter.unusedSimpArgs false
set_option linter.unusedVariables false
open Go.RowKit
set_option linter.unusedVariables false

theorem put_end {w1 w2 : World} {ad bm : Nat} {an af : Addr} {Sn Sf : List Nat} {blk : Int → Nat} {D : Dsk} {i : Int} {t B : Nat} {k n : ByteArray} (h : DkM w1 ad bm an af Sn Sf (idsK D.L) blk D.tp.length D) (hi : i ∈ idsK D.L)
    (hm : TMap w2 bm (idsK D.L) (updB blk i t)) (hA : Apart [bm] w1 w2) (ht : Tap w1 t k n) (hfar : t ∉ dkS ad bm Sn Sf (idsK D.L) blk) (hB : B ≤ t) :
    ∃ S', IsDk w2 S' ⟨ad, 0, none⟩ (D.set i ⟨k, n⟩) ∧ Apart (dkS ad bm Sn Sf (idsK D.L) blk) w1 w2 ∧ ∀ b ∈ S', b ∈ dkS ad bm Sn Sf (idsK D.L) blk ∨ B ≤ b := by
  have h2 := h.onPut hi hm hA ht hfar
  have hl : (D.set i ⟨k, n⟩).tp.length = D.tp.length := List.length_set
  have h3 : DkM w2 ad bm an af Sn Sf (idsK (D.set i ⟨k, n⟩).L) (updB blk i t) (D.set i ⟨k, n⟩).tp.length (D.set i ⟨k, n⟩) := by rw [hl]; exact h2
  refine ⟨_, h3.is, hA.more (fun b hb => by rw [List.mem_singleton.1 hb]; exact mem_dkS.2 (.inr (.inl rfl))), fun b hb => ?_⟩
  have hb : b ∈ dkS ad bm Sn Sf (idsK D.L) (updB blk i t) := hb
  rcases mem_dkS.1 hb with g | g | g | g | ⟨j, hj, g⟩
  · exact .inl (mem_dkS.2 (.inl g))
  · exact .inl (mem_dkS.2 (.inr (.inl g)))
  · exact .inl (mem_dkS.2 (.inr (.inr (.inl g))))
  · exact .inl (mem_dkS.2 (.inr (.inr (.inr (.inl g)))))
  · unfold updB at g
    split at g
    · exact .inr (g ▸ hB)
    · exact .inl (mem_dkS.2 (.inr (.inr (.inr (.inr ⟨j, hj, g⟩)))))
section
variable {w w' : World} {ad bm : Nat} {an af : Addr} {Sn Sf : List Nat} {ids : List Int} {blk : Int → Nat} {born : Nat} {D : Dsk}
set_option maxRecDepth 100000 in
set_option maxHeartbeats 800000 in
theorem dappend_c {b0 b1 b2 t B : Nat} {k m : ByteArray} {n : Int} (h : DkM w ad bm an af Sn Sf (idsK D.L) blk D.tp.length D) (hi : (idsK D.L).length ≤ 1000000) (hn : n ∈ idsK D.L) (ht : Tap w t k m) (hfar : t ∉ dkS ad bm Sn Sf (idsK D.L) blk) (hB : B ≤ t)
    (c0 : w.cell? ⟨b0, 0, none⟩ = some (.pointer (some ⟨t, 0, none⟩))) (c1 : w.cell? ⟨b1, 0, none⟩ = some (.pointer (some ⟨ad, 0, none⟩))) (c2 : w.cell? ⟨b2, 0, none⟩ = some (.int .i64 n)) :
    Calls Tryz.prog 46 #[.pointer (some ⟨b0, 0, none⟩), .pointer (some ⟨b1, 0, none⟩), .pointer (some ⟨b2, 0, none⟩)] w (UpdB B w (dkS ad bm Sn Sf (idsK D.L) blk) ⟨ad, 0, none⟩ (D.set n ⟨k, m⟩) (.tuple #[])) := by
  obtain ⟨w2, hrun, hm2, ha2⟩ := h.drew.map.store hi (h.map.wf hn) t (ids' := idsK D.L) (blk' := updB blk n t) h.map.1 (fun i => ⟨fun g => .inr g, fun g => g.elim (fun e => e ▸ hn) id⟩) (if_pos rfl) (fun i hi hne => if_neg hne)
  have hE := put_end h.drew hn hm2 ha2 (ht : Tap w.drew t k m) hfar hB
  have HE := Lib.hid (⟨hE.choose, hE.choose_spec.1, ⟨hE.choose_spec.2.1.os, hE.choose_spec.2.1.tape, hE.choose_spec.2.1.output, hE.choose_spec.2.1.size, hE.choose_spec.2.1.block⟩, hE.choose_spec.2.2⟩ : ∃ S', IsDk w2 S' ⟨ad, 0, none⟩ (D.set n ⟨k, m⟩) ∧ Apart (dkS ad bm Sn Sf (idsK D.L) blk) w w2 ∧ ∀ b ∈ S', b ∈ dkS ad bm Sn Sf (idsK D.L) blk ∨ B ≤ b)
  obtain ⟨d0, d1, d2, d3, d4, d5⟩ := h.cells
  clear h hm2 ha2 hE ht hfar
  go_enter Tryz.func46, Tryz.ntmps46
  go_wp2_with fail
  go_still_tail 6, (by kernel_rfl)
  change wpList _ _ _ _ _ w.drew
  go_wp2
  go_end0
  exact ⟨rfl, HE.out⟩
theorem eAppend : ∀ args w, (callFunc 46 args).run Tryz.prog w = .ok (.enter 46 args) w := enters_of Tryz.func46 (by kernel_rfl) rfl
set_option maxRecDepth 100000 in
set_option maxHeartbeats 800000 in
theorem dappend_off (h : DkM w ad bm an af Sn Sf (idsK D.L) blk D.tp.length D) (s : ByteArray) (ho : D.fu.off = true) (b : ByteArray) :
    Calls Tryz.prog 11 #[.pointer (some ⟨ad, 0, none⟩), .string s, .string b] w (UpdK w (dkS ad bm Sn Sf (idsK D.L) blk) ⟨ad, 0, none⟩ D (.int .i64 14)) := by
  obtain ⟨w0, hw0⟩ : ∃ w0, w0 = w.alloc (.cells #[.pointer (some ⟨ad, 0, none⟩)] 23) := ⟨_, rfl⟩
  have hb0 : Below w.heap.size w w0 := by rw [hw0]; exact (Below.refl _ w).alloc (Nat.le_refl _) _
  have k0 : Blk w0 w.heap.size #[.pointer (some ⟨ad, 0, none⟩)] 23 := by rw [hw0]; exact Blk.new w _ _
  have CR := Lib.hid (dfind_off (h.below hb0) ho s); have HB := Lib.hid hb0; have HI := Lib.hid h.is
  have x0 := k0.cell 0 _ rfl
  clear h hb0 k0
  subst hw0
  go_enter Tryz.func11, Tryz.ntmps11
  go_wp2_with (go_at_call 43; refine CR.out.mono ?_; rintro e w1 ⟨rfl, hb1⟩)
  go_ret
  have hbx := HB.out.trans (hb1.mono HB.out.size)
  exact upd_same HI.out (hbx.alloc hbx.size _) _
set_option maxRecDepth 100000 in
set_option maxHeartbeats 800000 in
theorem dappend_no (h : DkM w ad bm an af Sn Sf (idsK D.L) blk D.tp.length D) (s : ByteArray) (hL : okL 500 D.L) (hs : s.size ≤ maxLen) (ho : D.fu.off = false) (hf : findE (nowL D.L) s = none) (b : ByteArray) :
    Calls Tryz.prog 11 #[.pointer (some ⟨ad, 0, none⟩), .string s, .string b] w (UpdK w (dkS ad bm Sn Sf (idsK D.L) blk) ⟨ad, 0, none⟩ D (.int .i64 8)) := by
  obtain ⟨w0, hw0⟩ : ∃ w0, w0 = w.alloc (.cells #[.pointer (some ⟨ad, 0, none⟩)] 23) := ⟨_, rfl⟩
  have hb0 : Below w.heap.size w w0 := by rw [hw0]; exact (Below.refl _ w).alloc (Nat.le_refl _) _
  have k0 : Blk w0 w.heap.size #[.pointer (some ⟨ad, 0, none⟩)] 23 := by rw [hw0]; exact Blk.new w _ _
  have CR := Lib.hid (dfind_no (h.below hb0) hL ho s hs hf); have HB := Lib.hid hb0; have HI := Lib.hid h.is
  have x0 := k0.cell 0 _ rfl
  clear h hb0 k0
  subst hw0
  go_enter Tryz.func11, Tryz.ntmps11
  go_wp2_with (go_at_call 43; refine CR.out.mono ?_; rintro e w1 ⟨rfl, hb1⟩)
  go_ret
  have hbx := HB.out.trans (hb1.mono HB.out.size)
  exact upd_same HI.out (hbx.alloc hbx.size _) _
set_option maxRecDepth 100000 in
set_option maxHeartbeats 800000 in
theorem dcut_c {b0 b1 b2 t B : Nat} {k m : ByteArray} {n : Int} (h : DkM w ad bm an af Sn Sf (idsK D.L) blk D.tp.length D) (hi : (idsK D.L).length ≤ 1000000) (hn : n ∈ idsK D.L) (ht : Tap w t k m) (hfar : t ∉ dkS ad bm Sn Sf (idsK D.L) blk) (hB : B ≤ t)
    (c0 : w.cell? ⟨b0, 0, none⟩ = some (.pointer (some ⟨t, 0, none⟩))) (c1 : w.cell? ⟨b1, 0, none⟩ = some (.pointer (some ⟨ad, 0, none⟩))) (c2 : w.cell? ⟨b2, 0, none⟩ = some (.int .i64 n)) :
    Calls Tryz.prog 82 #[.pointer (some ⟨b0, 0, none⟩), .pointer (some ⟨b1, 0, none⟩), .pointer (some ⟨b2, 0, none⟩)] w (UpdB B w (dkS ad bm Sn Sf (idsK D.L) blk) ⟨ad, 0, none⟩ (D.set n ⟨k, m⟩) (.tuple #[])) := by
  obtain ⟨w2, hrun, hm2, ha2⟩ := h.drew.map.store hi (h.map.wf hn) t (ids' := idsK D.L) (blk' := updB blk n t) h.map.1 (fun i => ⟨fun g => .inr g, fun g => g.elim (fun e => e ▸ hn) id⟩) (if_pos rfl) (fun i hi hne => if_neg hne)
  have hE := put_end h.drew hn hm2 ha2 (ht : Tap w.drew t k m) hfar hB
  have HE := Lib.hid (⟨hE.choose, hE.choose_spec.1, ⟨hE.choose_spec.2.1.os, hE.choose_spec.2.1.tape, hE.choose_spec.2.1.output, hE.choose_spec.2.1.size, hE.choose_spec.2.1.block⟩, hE.choose_spec.2.2⟩ : ∃ S', IsDk w2 S' ⟨ad, 0, none⟩ (D.set n ⟨k, m⟩) ∧ Apart (dkS ad bm Sn Sf (idsK D.L) blk) w w2 ∧ ∀ b ∈ S', b ∈ dkS ad bm Sn Sf (idsK D.L) blk ∨ B ≤ b)
  obtain ⟨d0, d1, d2, d3, d4, d5⟩ := h.cells
  clear h hm2 ha2 hE ht hfar
  go_enter Tryz.func82, Tryz.ntmps82
  go_wp2_with fail
  go_still_tail 6, (by kernel_rfl)
  change wpList _ _ _ _ _ w.drew
  go_wp2
  go_end0
  exact ⟨rfl, HE.out⟩
theorem eCut : ∀ args w, (callFunc 82 args).run Tryz.prog w = .ok (.enter 82 args) w := enters_of Tryz.func82 (by kernel_rfl) rfl
set_option maxRecDepth 100000 in
set_option maxHeartbeats 800000 in
theorem dcut_off (h : DkM w ad bm an af Sn Sf (idsK D.L) blk D.tp.length D) (s : ByteArray) (ho : D.fu.off = true) (m : Int) :
    Calls Tryz.prog 25 #[.pointer (some ⟨ad, 0, none⟩), .string s, .int .i64 m] w (UpdK w (dkS ad bm Sn Sf (idsK D.L) blk) ⟨ad, 0, none⟩ D (.int .i64 14)) := by
  obtain ⟨w0, hw0⟩ : ∃ w0, w0 = w.alloc (.cells #[.pointer (some ⟨ad, 0, none⟩)] 23) := ⟨_, rfl⟩
  have hb0 : Below w.heap.size w w0 := by rw [hw0]; exact (Below.refl _ w).alloc (Nat.le_refl _) _
  have k0 : Blk w0 w.heap.size #[.pointer (some ⟨ad, 0, none⟩)] 23 := by rw [hw0]; exact Blk.new w _ _
  have CR := Lib.hid (dfind_off (h.below hb0) ho s); have HB := Lib.hid hb0; have HI := Lib.hid h.is
  have x0 := k0.cell 0 _ rfl
  clear h hb0 k0
  subst hw0
  go_enter Tryz.func25, Tryz.ntmps25
  go_wp2_with (go_at_call 43; refine CR.out.mono ?_; rintro e w1 ⟨rfl, hb1⟩)
  go_ret
  have hbx := HB.out.trans (hb1.mono HB.out.size)
  exact upd_same HI.out (hbx.alloc hbx.size _) _
set_option maxRecDepth 100000 in
set_option maxHeartbeats 800000 in
theorem dcut_no (h : DkM w ad bm an af Sn Sf (idsK D.L) blk D.tp.length D) (s : ByteArray) (hL : okL 500 D.L) (hs : s.size ≤ maxLen) (ho : D.fu.off = false) (hf : findE (nowL D.L) s = none) (m : Int) :
    Calls Tryz.prog 25 #[.pointer (some ⟨ad, 0, none⟩), .string s, .int .i64 m] w (UpdK w (dkS ad bm Sn Sf (idsK D.L) blk) ⟨ad, 0, none⟩ D (.int .i64 8)) := by
  obtain ⟨w0, hw0⟩ : ∃ w0, w0 = w.alloc (.cells #[.pointer (some ⟨ad, 0, none⟩)] 23) := ⟨_, rfl⟩
  have hb0 : Below w.heap.size w w0 := by rw [hw0]; exact (Below.refl _ w).alloc (Nat.le_refl _) _
  have k0 : Blk w0 w.heap.size #[.pointer (some ⟨ad, 0, none⟩)] 23 := by rw [hw0]; exact Blk.new w _ _
  have CR := Lib.hid (dfind_no (h.below hb0) hL ho s hs hf); have HB := Lib.hid hb0; have HI := Lib.hid h.is
  have x0 := k0.cell 0 _ rfl
  clear h hb0 k0
  subst hw0
  go_enter Tryz.func25, Tryz.ntmps25
  go_wp2_with (go_at_call 43; refine CR.out.mono ?_; rintro e w1 ⟨rfl, hb1⟩)
  go_ret
  have hbx := HB.out.trans (hb1.mono HB.out.size)
  exact upd_same HI.out (hbx.alloc hbx.size _) _
end
end Go.Proofs.YtfgecjlccngddaaGreat
