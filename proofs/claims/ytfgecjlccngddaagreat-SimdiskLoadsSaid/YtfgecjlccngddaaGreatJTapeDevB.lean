/-
  Joined: TapeDev2.
-/
import Derived.Test.YtfgecjlccngddaaGreatJTapeDev
import Derived.Test.YtfgecjlccngddaaGreatJBlendDevB
import Derived.Test.YtfgecjlccngddaaGreatJLawBlend
namespace Go.Proofs.YtfgecjlccngddaaGreat
set_option linter.unusedSimpArgs false
set_option linter.unusedVariables false
open Go.RowKit
set_option linter.unusedVariables false

/-- A call of a tape: it answers v, the tape has these views then, and nothing but its own block has turned. -/
def UpdT (w : World) (b : Nat) (k n : ByteArray) (v : Value) (e : Ending) (w' : World) : Prop := e = .returned v ∧ Tap w' b k n ∧ Apart [b] w w'
/-- A call that answers a tape of its own. -/
def NewT (w : World) (k n : ByteArray) (e : Ending) (w' : World) : Prop := ∃ b, e = .returned (.pointer (some ⟨b, 0, none⟩)) ∧ w.heap.size ≤ b ∧ Tap w' b k n ∧ Below w.heap.size w w'
theorem Apart.drew {S : List Nat} {a w : World} (h : Apart S a w) : Apart S a w.drew := ⟨h.os, h.tape, h.output, h.size, h.block⟩
theorem Tap.below {w w' : World} {b : Nat} {k n : ByteArray} (h : Tap w b k n) (hb : Below w.heap.size w w') : Tap w' b k n := Tap3.keep h (hb.block b (Tap3.lt h))
theorem Tap.apart {w w' : World} {b : Nat} {k n : ByteArray} {S : List Nat} (h : Tap w b k n) (hb : Apart S w w') (hs : b ∉ S) : Tap w' b k n := Tap3.keep h (hb.block b (Tap3.lt h) hs)
theorem Nob.below {w w' : World} {v : Value} (h : Nob w v) (hb : Below w.heap.size w w') : Nob w' v := by
  rcases h with h | ⟨b, h, ht⟩
  · exact .inl h
  · exact .inr ⟨b, h, Tap3.keep ht (hb.block b ht.lt)⟩

-- MARK: by gen_tape2.py
set_option maxRecDepth 100000 in
set_option maxHeartbeats 400000 in
theorem tload_any (k n : ByteArray) (w : World) : Calls Tryz.prog 65 #[.string k, .string n] w (NewT w k n) := by
  go_enter Tryz.func65, Tryz.ntmps65
  go_wp2_with fail
  have h0 := Tap3.new w ByteArray.empty ByteArray.empty true
  have h1 := Tap3.new w k ByteArray.empty true
  have h2 := Tap3.new w k n true
  have H0 := Lib.hid h0; have H1 := Lib.hid h1; have H2 := Lib.hid h2
  clear h0 h1 h2
  refine (tkeep H0.out k).mono ?_
  rintro e w' ⟨rfl, rfl⟩
  go_wp2_with fail
  refine (tshow H1.out n).mono ?_
  rintro e w' ⟨rfl, rfl⟩
  go_wp2
  go_ret
  exact ⟨_, rfl, Nat.le_refl _, H2.out, (Below.refl _ _).alloc (Nat.le_refl _) _⟩
set_option maxRecDepth 100000 in
set_option maxHeartbeats 400000 in
theorem tnew_any (w : World) : Calls Tryz.prog 42 #[] w (NewT w ByteArray.empty ByteArray.empty) := by
  go_enter Tryz.func42, Tryz.ntmps42
  go_wp2_with fail
  refine (tload_any _ _ _).mono ?_
  rintro e w' ⟨b, rfl, hb, ht, hw⟩
  have HT := Lib.hid ht; clear ht
  go_wp2
  go_ret
  exact ⟨b, rfl, hb, HT.out, hw⟩
set_option maxRecDepth 100000 in
set_option maxHeartbeats 400000 in
theorem tappend_yes {w : World} {b : Nat} {k n : ByteArray} (h : Tap w b k n) (s : ByteArray) (hs : n.size + s.size ≤ 4294967296) :
    Calls Tryz.prog 44 #[.pointer (some ⟨b, 0, none⟩), .string s] w (UpdT w b k (n ++ s) (.tuple #[])) := by
  have H := Lib.hid h; clear h
  have s1 : n.size ≤ 4294967296 := by omega
  have s2 : s.size ≤ 4294967296 := by omega
  go_enter Tryz.func44, Tryz.ntmps44
  go_wp2_with fail
  refine (tchanges_yes H.out).mono ?_
  rintro e w' ⟨rfl, rfl⟩
  go_wp2_with fail
  refine (tnow_v (views_yes (w := w.drew) H.out)).mono ?_
  rintro e w' ⟨rfl, rfl⟩
  go_wp2_with fail
  refine (tshow (w := w.drew.drew) (m := true) H.out _).mono ?_
  rintro e w' ⟨rfl, rfl⟩
  go_wp2
  go_end0
  exact ⟨rfl, Tap3.show (w := w) H.out _, ((Apart.refl [b] w).setCell (p := ⟨b, 0, none⟩) (.inl (List.mem_singleton.2 rfl)) _).drew.drew⟩
set_option maxRecDepth 100000 in
set_option maxHeartbeats 400000 in
theorem tsync_yes {w : World} {b : Nat} {k n : ByteArray} (h : Tap w b k n) :
    Calls Tryz.prog 72 #[.pointer (some ⟨b, 0, none⟩)] w (UpdT w b n n (.tuple #[])) := by
  have H := Lib.hid h; clear h
  go_enter Tryz.func72, Tryz.ntmps72
  go_wp2_with fail
  refine (tchanges_yes H.out).mono ?_
  rintro e w' ⟨rfl, rfl⟩
  go_wp2_with fail
  refine (tnow_v (views_yes (w := w.drew) H.out)).mono ?_
  rintro e w' ⟨rfl, rfl⟩
  go_wp2_with fail
  refine (tkeep (w := w.drew.drew) (m := true) H.out _).mono ?_
  rintro e w' ⟨rfl, rfl⟩
  go_wp2
  go_end0
  exact ⟨rfl, Tap3.hold (w := w) H.out _, ((Apart.refl [b] w).setCell (p := ⟨b, 1, none⟩) (.inl (List.mem_singleton.2 rfl)) _).drew.drew⟩
set_option maxRecDepth 100000 in
set_option maxHeartbeats 400000 in
theorem tcut_no {w : World} {b : Nat} {k n : ByteArray} (h : Tap w b k n) (m : Int) (hm : m < 0 ∨ (n.size : Int) < m) :
    Calls Tryz.prog 81 #[.pointer (some ⟨b, 0, none⟩), .int .i64 m] w (UpdT w b k n (.bool false)) := by
  have H := Lib.hid h; clear h
  have hend : UpdT w b k n (.bool false) (.returned (.bool false)) w.drew := ⟨rfl, H.out, ⟨rfl, rfl, rfl, Nat.le_refl _, fun _ _ _ => rfl⟩⟩
  have HE := Lib.hid hend; clear hend
  by_cases h0 : m < 0
  · clear hm
    go_enter Tryz.func81, Tryz.ntmps81
    go_wp2_with fail
    refine (tnow_v (views_yes H.out)).mono ?_
    rintro e w' ⟨rfl, rfl⟩
    go_wp2_with fail
    refine (tmade_yes (w := w.drew) H.out).mono ?_
    rintro e w' ⟨rfl, rfl⟩
    go_wp2
    go_ret
    exact HE.out
  · have h1 : (n.size : Int) < m := by omega
    clear hm
    go_enter Tryz.func81, Tryz.ntmps81
    go_wp2_with fail
    refine (tnow_v (views_yes H.out)).mono ?_
    rintro e w' ⟨rfl, rfl⟩
    go_wp2_with fail
    refine (tmade_yes (w := w.drew) H.out).mono ?_
    rintro e w' ⟨rfl, rfl⟩
    go_wp2
    go_ret
    exact HE.out
set_option maxRecDepth 100000 in
set_option maxHeartbeats 400000 in
theorem tcut_yes {w : World} {b : Nat} {k n : ByteArray} (h : Tap w b k n) (hn : n.size ≤ 4294967296) (m : Nat) (hm : m ≤ n.size) :
    Calls Tryz.prog 81 #[.pointer (some ⟨b, 0, none⟩), .int .i64 m] w (UpdT w b k (n.extract 0 m) (.bool true)) := by
  have H := Lib.hid h; clear h
  go_enter Tryz.func81, Tryz.ntmps81
  go_wp2_with fail
  refine (tnow_v (views_yes H.out)).mono ?_
  rintro e w' ⟨rfl, rfl⟩
  go_wp2_with fail
  refine (tmade_yes (w := w.drew) H.out).mono ?_
  rintro e w' ⟨rfl, rfl⟩
  go_wp2_with fail
  refine (tchanges_yes (w := w.drew) H.out).mono ?_
  rintro e w' ⟨rfl, rfl⟩
  go_wp2_with fail
  refine (tshow (w := w.drew.drew) (m := true) H.out _).mono ?_
  rintro e w' ⟨rfl, rfl⟩
  go_wp2
  go_ret
  exact ⟨rfl, Tap3.show (w := w) H.out _, ((Apart.refl [b] w).setCell (p := ⟨b, 0, none⟩) (.inl (List.mem_singleton.2 rfl)) _).drew.drew⟩
set_option maxRecDepth 100000 in
set_option maxHeartbeats 400000 in
theorem tcrash_yes {w : World} {b : Nat} {k n : ByteArray} (h : Tap w b k n) (hk : k.size ≤ 4294967296) (hn : n.size ≤ 4294967296) (c : ByteArray) :
    Calls Tryz.prog 51 #[.pointer (some ⟨b, 0, none⟩), .string c] w (UpdT w b (mixOf k n c) (mixOf k n c) (.int .i64 (mixUs k n c))) := by
  have cm := pmix_any k n c hk hn
  obtain ⟨x, hx⟩ : ∃ x, mixOf k n c = x := ⟨_, rfl⟩
  obtain ⟨u, hu⟩ : ∃ u, mixUs k n c = u := ⟨_, rfl⟩
  rw [hx, hu] at cm ⊢
  have H := Lib.hid h; have CM := Lib.hid cm; clear h cm hx hu
  go_enter Tryz.func51, Tryz.ntmps51
  go_wp2_with fail
  refine (tviews_yes H.out).mono ?_
  rintro e w' ⟨rfl, rfl⟩
  go_wp2_with fail
  refine (tlasting (w := w.drew) (m := true) H.out).mono ?_
  rintro e w' ⟨rfl, rfl⟩
  go_wp2_with fail
  refine (tshown (w := w.drew) (m := true) H.out).mono ?_
  rintro e w' ⟨rfl, rfl⟩
  go_wp2_with fail
  refine (CM.out _).mono ?_
  rintro e w2 ⟨rfl, hb2⟩
  have t2 : Tap w2 b k n := Tap.below (w := w.drew) H.out hb2
  have a2 : Apart [b] w w2.drew := Apart.of_below (Below.drew (a := w) ⟨hb2.os, hb2.tape, hb2.output, hb2.size, hb2.block⟩)
  have T2 := Lib.hid t2; have A2 := Lib.hid a2; clear t2 a2 hb2
  go_wp2_with fail
  refine (tchanges_yes T2.out).mono ?_
  rintro e w' ⟨rfl, rfl⟩
  go_wp2_with fail
  refine (tkeep (w := w2.drew) (m := true) T2.out _).mono ?_
  rintro e w' ⟨rfl, rfl⟩
  go_wp2_with fail
  refine (tshow (Tap3.hold (w := w2.drew) (m := true) T2.out _) _).mono ?_
  rintro e w' ⟨rfl, rfl⟩
  go_wp2
  go_ret
  exact ⟨rfl, Tap3.show (Tap3.hold (w := w2.drew) T2.out _) _, (A2.out.setCell (.inl (by simp)) _).setCell (.inl (by simp)) _⟩
set_option maxRecDepth 100000 in
set_option maxHeartbeats 400000 in
theorem tcopy_yes {w : World} {b : Nat} {k n : ByteArray} (h : Tap w b k n) :
    Calls Tryz.prog 36 #[.pointer (some ⟨b, 0, none⟩)] w (NewT w k n) := by
  have H := Lib.hid h; clear h
  go_enter Tryz.func36, Tryz.ntmps36
  go_wp2_with fail
  refine (tmade_yes H.out).mono ?_
  rintro e w' ⟨rfl, rfl⟩
  go_wp2_with fail
  refine (tviews_yes H.out).mono ?_
  rintro e w' ⟨rfl, rfl⟩
  go_wp2_with fail
  refine (tlasting (w := w.drew) (m := true) H.out).mono ?_
  rintro e w' ⟨rfl, rfl⟩
  go_wp2_with fail
  refine (tshown (w := w.drew) (m := true) H.out).mono ?_
  rintro e w' ⟨rfl, rfl⟩
  go_wp2_with fail
  refine (tload_any _ _ _).mono ?_
  rintro e w' ⟨b2, rfl, hb, ht, hw⟩
  have HT := Lib.hid ht; clear ht
  go_wp2
  go_ret
  exact ⟨b2, rfl, hb, HT.out, ⟨hw.os, hw.tape, hw.output, hw.size, hw.block⟩⟩
set_option maxRecDepth 100000 in
set_option maxHeartbeats 400000 in
theorem tappend_nob {w : World} {v : Value} (h : Nob w v) (s : ByteArray) (hs : s.size ≤ maxLen) :
    Calls Tryz.prog 44 #[v, .string s] w fun e w' => e = .returned (.tuple #[]) ∧ Below w.heap.size w w' := by
  unfold maxLen at hs
  have h1 : Nob (w.alloc (.cells #[.string ByteArray.empty, .string ByteArray.empty, .bool false] 166)).drew v := h.below (Below.drew ((Below.refl _ _).alloc (Nat.le_refl _) _))
  have ht := Tap3.new w ByteArray.empty ByteArray.empty false
  have hb0 := (Below.refl w.heap.size w).alloc (Nat.le_refl _) (.cells #[.string ByteArray.empty, .string ByteArray.empty, .bool false] 166)
  obtain ⟨w1, hw1⟩ : ∃ w1, w.alloc (.cells #[.string ByteArray.empty, .string ByteArray.empty, .bool false] 166) = w1 := ⟨_, rfl⟩
  have hb1 := (Below.refl w1.heap.size w1).alloc (Nat.le_refl _) (.cells #[.string ByteArray.empty, .string ByteArray.empty, .bool false] 166)
  have cc := tchanges_nob h
  rw [hw1] at h1 ht hb0 cc
  have C := Lib.hid cc; have H1 := Lib.hid h1; have HT := Lib.hid ht; have HB0 := Lib.hid hb0; have HB1 := Lib.hid hb1; clear h h1 ht hb0 hb1 cc hw1
  go_enter Tryz.func44, Tryz.ntmps44
  go_wp2_with fail
  refine C.out.mono ?_
  rintro e w' ⟨rfl, rfl⟩
  go_wp2_with fail
  refine (tnow_v (views_nob H1.out)).mono ?_
  rintro e w' ⟨rfl, rfl⟩
  go_wp2_with fail
  refine (tshow (w := (w1.alloc (.cells #[.string ByteArray.empty, .string ByteArray.empty, .bool false] 166)).drew.drew) (m := false) (HT.out.keep (HB1.out.block _ HT.out.lt)) _).mono ?_
  rintro e w' ⟨rfl, rfl⟩
  go_wp2
  go_end0
  exact ⟨rfl, ((HB0.out.trans (HB1.out.mono HB0.out.size)).drew.drew).setCell (Nat.le_refl _) _⟩
set_option maxRecDepth 100000 in
set_option maxHeartbeats 400000 in
theorem tsync_nob {w : World} {v : Value} (h : Nob w v) :
    Calls Tryz.prog 72 #[v] w fun e w' => e = .returned (.tuple #[]) ∧ Below w.heap.size w w' := by
  have h1 : Nob (w.alloc (.cells #[.string ByteArray.empty, .string ByteArray.empty, .bool false] 166)).drew v := h.below (Below.drew ((Below.refl _ _).alloc (Nat.le_refl _) _))
  have ht := Tap3.new w ByteArray.empty ByteArray.empty false
  have hb0 := (Below.refl w.heap.size w).alloc (Nat.le_refl _) (.cells #[.string ByteArray.empty, .string ByteArray.empty, .bool false] 166)
  obtain ⟨w1, hw1⟩ : ∃ w1, w.alloc (.cells #[.string ByteArray.empty, .string ByteArray.empty, .bool false] 166) = w1 := ⟨_, rfl⟩
  have hb1 := (Below.refl w1.heap.size w1).alloc (Nat.le_refl _) (.cells #[.string ByteArray.empty, .string ByteArray.empty, .bool false] 166)
  have cc := tchanges_nob h
  rw [hw1] at h1 ht hb0 cc
  have C := Lib.hid cc; have H1 := Lib.hid h1; have HT := Lib.hid ht; have HB0 := Lib.hid hb0; have HB1 := Lib.hid hb1; clear h h1 ht hb0 hb1 cc hw1
  go_enter Tryz.func72, Tryz.ntmps72
  go_wp2_with fail
  refine C.out.mono ?_
  rintro e w' ⟨rfl, rfl⟩
  go_wp2_with fail
  refine (tnow_v (views_nob H1.out)).mono ?_
  rintro e w' ⟨rfl, rfl⟩
  go_wp2_with fail
  refine (tkeep (w := (w1.alloc (.cells #[.string ByteArray.empty, .string ByteArray.empty, .bool false] 166)).drew.drew) (m := false) (HT.out.keep (HB1.out.block _ HT.out.lt)) _).mono ?_
  rintro e w' ⟨rfl, rfl⟩
  go_wp2
  go_end0
  exact ⟨rfl, ((HB0.out.trans (HB1.out.mono HB0.out.size)).drew.drew).setCell (Nat.le_refl _) _⟩
set_option maxRecDepth 100000 in
set_option maxHeartbeats 400000 in
theorem tcut_nob {w : World} {v : Value} (h : Nob w v) (m : Int) :
    Calls Tryz.prog 81 #[v, .int .i64 m] w fun e w' => e = .returned (.bool false) ∧ Below w.heap.size w w' := by
  have hb0 := (Below.refl w.heap.size w).alloc (Nat.le_refl _) (.cells #[.string ByteArray.empty, .string ByteArray.empty, .bool false] 166)
  have h1 : Nob (w.alloc (.cells #[.string ByteArray.empty, .string ByteArray.empty, .bool false] 166)).drew v := h.below hb0.drew
  have H := Lib.hid h; have H1 := Lib.hid h1; have HB0 := Lib.hid hb0; clear h h1 hb0
  go_enter Tryz.func81, Tryz.ntmps81
  go_wp2_with fail
  refine (tnow_v (views_nob H.out)).mono ?_
  rintro e w' ⟨rfl, rfl⟩
  go_wp2_with fail
  refine (tmade_nob H1.out).mono ?_
  rintro e w' ⟨rfl, rfl⟩
  go_wp2
  go_ret
  exact ⟨rfl, HB0.out.drew⟩
set_option maxRecDepth 100000 in
set_option maxHeartbeats 400000 in
theorem tcrash_nob {w : World} {v : Value} (h : Nob w v) (c : ByteArray) :
    Calls Tryz.prog 51 #[v, .string c] w fun e w' => e = .returned (.int .i64 0) ∧ Below w.heap.size w w' := by
  have ht := Tap3.new w ByteArray.empty ByteArray.empty false
  have hb0 := (Below.refl w.heap.size w).alloc (Nat.le_refl _) (.cells #[.string ByteArray.empty, .string ByteArray.empty, .bool false] 166)
  have hv := tviews_nob h
  obtain ⟨w1, hw1⟩ : ∃ w1, w.alloc (.cells #[.string ByteArray.empty, .string ByteArray.empty, .bool false] 166) = w1 := ⟨_, rfl⟩
  rw [hw1] at ht hb0 hv
  have h1 : Nob w1 v := h.below hb0
  have cm := pmix_any ByteArray.empty ByteArray.empty c (by simp) (by simp)
  obtain ⟨e1, e2⟩ := mixOf_same ByteArray.empty c
  rw [e1, e2] at cm
  have V := Lib.hid hv; have H1 := Lib.hid h1; have HT := Lib.hid ht; have HB0 := Lib.hid hb0; have CM := Lib.hid cm; clear h h1 ht hb0 hv hw1 e1 e2 cm
  go_enter Tryz.func51, Tryz.ntmps51
  go_wp2_with fail
  refine V.out.mono ?_
  rintro e w' ⟨rfl, rfl⟩
  go_wp2_with fail
  refine (tlasting (w := w1.drew) (m := false) HT.out).mono ?_
  rintro e w' ⟨rfl, rfl⟩
  go_wp2_with fail
  refine (tshown (w := w1.drew) (m := false) HT.out).mono ?_
  rintro e w' ⟨rfl, rfl⟩
  go_wp2_with fail
  refine (CM.out _).mono ?_
  rintro e w2 ⟨rfl, hb2⟩
  have h2 : Nob w2 v := Nob.below (w := w1.drew) H1.out hb2
  have ht3 := Tap3.new w2 ByteArray.empty ByteArray.empty false
  have hb3 := (Below.refl w2.heap.size w2).alloc (Nat.le_refl _) (.cells #[.string ByteArray.empty, .string ByteArray.empty, .bool false] 166)
  have cc := tchanges_nob h2
  obtain ⟨w3, hw3⟩ : ∃ w3, w2.alloc (.cells #[.string ByteArray.empty, .string ByteArray.empty, .bool false] 166) = w3 := ⟨_, rfl⟩
  rw [hw3] at ht3 hb3 cc
  have hB : Below w.heap.size w w3.drew := (HB0.out.drew.trans (hb2.mono HB0.out.size)).trans ((hb3.mono (Nat.le_trans HB0.out.size hb2.size)).drew)
  have hl : w.heap.size ≤ w2.heap.size := Nat.le_trans HB0.out.size hb2.size
  have CC := Lib.hid cc; have HT3 := Lib.hid ht3; have HBB := Lib.hid hB; clear cc ht3 hb3 hw3 hB hb2 h2
  go_wp2_with fail
  refine CC.out.mono ?_
  rintro e w' ⟨rfl, rfl⟩
  go_wp2_with fail
  refine (tkeep (w := w3.drew) (m := false) HT3.out _).mono ?_
  rintro e w' ⟨rfl, rfl⟩
  go_wp2_with fail
  refine (tshow (Tap3.hold (w := w3.drew) (m := false) HT3.out _) _).mono ?_
  rintro e w' ⟨rfl, rfl⟩
  go_wp2
  go_ret
  exact ⟨rfl, (HBB.out.setCell hl _).setCell hl _⟩
set_option maxRecDepth 100000 in
set_option maxHeartbeats 400000 in
theorem tcopy_nob {w : World} {v : Value} (h : Nob w v) :
    Calls Tryz.prog 36 #[v] w fun e w' => e = .returned (.pointer none) ∧ w = w' := by
  have H := Lib.hid h; clear h
  go_enter Tryz.func36, Tryz.ntmps36
  go_wp2_with fail
  refine (tmade_nob H.out).mono ?_
  rintro e w' ⟨rfl, rfl⟩
  go_wp2
  go_ret
  exact ⟨rfl, rfl⟩
end Go.Proofs.YtfgecjlccngddaaGreat
