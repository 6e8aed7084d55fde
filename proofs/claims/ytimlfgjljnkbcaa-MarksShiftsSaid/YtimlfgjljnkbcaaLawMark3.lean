/-
  The laws on marks (layer 22): MarksShifts. (Written by gen_lawshift22.py.)
-/
import Derived.Test.YtimlfgjljnkbcaaLawMark2
import Derived.Test.YtimlfgjljnkbcaaMarkDev4
import Derived.Test.YtimlfgjljnkbcaaEditBack
import Derived.Test.YtimlfgjljnkbcaaOpenEd
namespace Go.Proofs.Ytimlfgjljnkbcaa
open Go.RowKit
set_option linter.unusedVariables false

theorem edge_le {t : ByteArray} {p : Int} (h : edgeB t.data.toList p = true) : 0 ≤ p ∧ p ≤ t.size := by
  unfold edgeB at h
  have h1 := of_decide_eq_true h
  refine ⟨h1.1, ?_⟩
  have hl : t.data.toList.length = t.size := by simp
  rcases h1.2 with g | g | g
  · omega
  · rw [hl] at g; omega
  · rw [hl] at g; omega
theorem okM_edge {t : ByteArray} {x : Mrk} (h : okM t x = true) : edgeB t.data.toList x.p = true := by
  unfold okM at h
  exact (Bool.and_eq_true _ _ ▸ h : _ ∧ _).2
theorem okM_name {t : ByteArray} {x : Mrk} (h : okM t x = true) : markB x.name.data.toList = true := by
  unfold okM at h
  exact (Bool.and_eq_true _ _ ▸ h : _ ∧ _).1
/-- Marks that are right stand within the text. -/
theorem right_in {l : List Mrk} {t : ByteArray} (h : rightM l t = true) : ∀ x ∈ l, 0 ≤ x.p ∧ x.p ≤ t.size := fun x hx => by
  obtain ⟨i, hi, rfl⟩ := List.getElem_of_mem hx
  have := ((rightM_iff l t).1 h).1 i hi
  rw [mget hi] at this
  exact edge_le (okM_edge this)
/-- No more is made than a text may have. -/
theorem appE_size {t o n s : ByteArray} {p : Int} (h : appE t p o n = (s, 0)) : s.size ≤ 4096 := by
  obtain ⟨k, -, hk, ho, -, -, -, -, hl, rfl⟩ := appE_zero h
  have := stands_le hk ho
  rw [ByteArray.size_append, ByteArray.size_append, ByteArray.size_extract, ByteArray.size_extract]
  omega
/-- Right marks, shifted by an edit that can be applied, are right for what that makes. -/
theorem right_shift {l : List Mrk} {t o n s : ByteArray} {p : Int} (hv : vldB t.data.toList = true) (h : appE t p o n = (s, 0)) (hr : rightM l t = true) : rightM (shfM l (shiftI p o.size n.size)) s = true := by
  obtain ⟨h1, h2, h3⟩ := (rightM_iff l t).1 hr
  rw [rightM_iff]
  refine ⟨fun i hi => ?_, by rw [shfM_len]; exact h2, by rw [shfM_rise]; exact h3⟩
  rw [shfM_len] at hi
  rw [shfM_get l _ i hi]
  have hk := h1 i hi
  unfold okM
  rw [show markB (l[i]!).name.data.toList = true from okM_name hk, Bool.true_and]
  exact shift_edge hv h (okM_edge hk)

set_option maxRecDepth 100000 in
set_option maxHeartbeats 3200000 in
theorem marksShifts_f1 (a : Option Addr) (l : List Mrk) (c : Nat) (t o en : ByteArray) (p : Int) (w : World) (fp : Pcs w ⟨a, l, c⟩) (fl : l.length ≤ c ∧ c ≤ maxLen) (ff : ∀ x ∈ l, x.fits) (ht : t.size ≤ maxLen) (ho : o.size ≤ maxLen) (hen : en.size ≤ maxLen) (h1 : ¬ l.length ≤ 40) :
    Calls Try.prog 5 #[.slice a l.length c, .string t, .agg #[.int .i64 p, .string o, .string en]] w fun e w' => e = .returned (.bool true) ∧ Below w.heap.size w w' := by
  unfold maxLen at ht ho hen
  have cfew := few_any a l.length c
  rw [decide_eq_false h1] at cfew
  obtain ⟨wX, hwX⟩ : ∃ wX, w.alloc (.cells #[.int .i64 p, .string o, .string en] 38) = wX := ⟨_, rfl⟩
  have hb0 : Below w.heap.size w (w.alloc (.cells #[.int .i64 p, .string o, .string en] 38)) := (Below.refl w.heap.size w).alloc (Nat.le_refl _) _
  obtain ⟨x0, x1, x2⟩ := box_ed (N := w.heap.size + 1) (by omega) (Below.refl (w.heap.size + 1) (w.alloc (.cells #[.int .i64 p, .string o, .string en] 38)))
  have hX1 : w.heap.size + 1 ≤ wX.heap.size := by rw [← hwX]; simp
  rw [hwX] at x0 x1 x2 hb0
  have hpX : Pcs wX ⟨a, l, c⟩ := fp.later hb0
  have HEND := Lib.hid (fun w' (h : Below wX.heap.size wX w') => hb0.trans (h.mono (by omega)))
  have HXB := Lib.hid (show w.heap.size < wX.heap.size by omega)
  obtain ⟨n, hn⟩ : ∃ n, l.length = n := ⟨_, rfl⟩
  rw [hn] at cfew ⊢
  have CF := Lib.hid cfew
  clear cfew hn fp fl ff hpX hb0 h1
  go_enter Try.func5, Try.ntmps5
  go_wp2_with (first | (go_at_call 7; refine (CF.out _).mono ?_; rintro e w1 ⟨rfl, rfl⟩) | (go_at_call 8; refine (lives22_any _).mono ?_; rintro e w2 ⟨rfl, hb2⟩))
  go_ret
  exact ⟨rfl, HEND.out _ hb2⟩

set_option maxRecDepth 100000 in
set_option maxHeartbeats 3200000 in
theorem marksShifts_f2 (a : Option Addr) (l : List Mrk) (c : Nat) (t o en : ByteArray) (p : Int) (w : World) (fp : Pcs w ⟨a, l, c⟩) (fl : l.length ≤ c ∧ c ≤ maxLen) (ff : ∀ x ∈ l, x.fits) (ht : t.size ≤ maxLen) (ho : o.size ≤ maxLen) (hen : en.size ≤ maxLen) (h1 : l.length ≤ 40) (h2 : 600 < t.size) :
    Calls Try.prog 5 #[.slice a l.length c, .string t, .agg #[.int .i64 p, .string o, .string en]] w fun e w' => e = .returned (.bool true) ∧ Below w.heap.size w w' := by
  unfold maxLen at ht ho hen
  have cfew := few_any a l.length c
  rw [decide_eq_true h1] at cfew
  obtain ⟨wX, hwX⟩ : ∃ wX, w.alloc (.cells #[.int .i64 p, .string o, .string en] 38) = wX := ⟨_, rfl⟩
  have hb0 : Below w.heap.size w (w.alloc (.cells #[.int .i64 p, .string o, .string en] 38)) := (Below.refl w.heap.size w).alloc (Nat.le_refl _) _
  obtain ⟨x0, x1, x2⟩ := box_ed (N := w.heap.size + 1) (by omega) (Below.refl (w.heap.size + 1) (w.alloc (.cells #[.int .i64 p, .string o, .string en] 38)))
  have hX1 : w.heap.size + 1 ≤ wX.heap.size := by rw [← hwX]; simp
  rw [hwX] at x0 x1 x2 hb0
  have hpX : Pcs wX ⟨a, l, c⟩ := fp.later hb0
  have HEND := Lib.hid (fun w' (h : Below wX.heap.size wX w') => hb0.trans (h.mono (by omega)))
  have HXB := Lib.hid (show w.heap.size < wX.heap.size by omega)
  obtain ⟨n, hn⟩ : ∃ n, l.length = n := ⟨_, rfl⟩
  rw [hn] at cfew ⊢
  have CF := Lib.hid cfew
  clear cfew hn fp fl ff hpX hb0 h1
  go_enter Try.func5, Try.ntmps5
  go_wp2_with (first | (go_at_call 7; refine (CF.out _).mono ?_; rintro e w1 ⟨rfl, rfl⟩) | (go_at_call 8; refine (lives22_any _).mono ?_; rintro e w2 ⟨rfl, hb2⟩))
  go_ret
  exact ⟨rfl, HEND.out _ hb2⟩

set_option maxRecDepth 100000 in
set_option maxHeartbeats 3200000 in
theorem marksShifts_f3 (a : Option Addr) (l : List Mrk) (c : Nat) (t o en : ByteArray) (p : Int) (w : World) (fp : Pcs w ⟨a, l, c⟩) (fl : l.length ≤ c ∧ c ≤ maxLen) (ff : ∀ x ∈ l, x.fits) (ht : t.size ≤ maxLen) (ho : o.size ≤ maxLen) (hen : en.size ≤ maxLen) (h1 : l.length ≤ 40) (h2 : t.size ≤ 600) (h3 : 600 < o.size) :
    Calls Try.prog 5 #[.slice a l.length c, .string t, .agg #[.int .i64 p, .string o, .string en]] w fun e w' => e = .returned (.bool true) ∧ Below w.heap.size w w' := by
  unfold maxLen at ht ho hen
  have cfew := few_any a l.length c
  rw [decide_eq_true h1] at cfew
  obtain ⟨wX, hwX⟩ : ∃ wX, w.alloc (.cells #[.int .i64 p, .string o, .string en] 38) = wX := ⟨_, rfl⟩
  have hb0 : Below w.heap.size w (w.alloc (.cells #[.int .i64 p, .string o, .string en] 38)) := (Below.refl w.heap.size w).alloc (Nat.le_refl _) _
  obtain ⟨x0, x1, x2⟩ := box_ed (N := w.heap.size + 1) (by omega) (Below.refl (w.heap.size + 1) (w.alloc (.cells #[.int .i64 p, .string o, .string en] 38)))
  have hX1 : w.heap.size + 1 ≤ wX.heap.size := by rw [← hwX]; simp
  rw [hwX] at x0 x1 x2 hb0
  have hpX : Pcs wX ⟨a, l, c⟩ := fp.later hb0
  have HEND := Lib.hid (fun w' (h : Below wX.heap.size wX w') => hb0.trans (h.mono (by omega)))
  have HXB := Lib.hid (show w.heap.size < wX.heap.size by omega)
  obtain ⟨n, hn⟩ : ∃ n, l.length = n := ⟨_, rfl⟩
  rw [hn] at cfew ⊢
  have CF := Lib.hid cfew
  clear cfew hn fp fl ff hpX hb0 h1
  go_enter Try.func5, Try.ntmps5
  go_wp2_with (first | (go_at_call 7; refine (CF.out _).mono ?_; rintro e w1 ⟨rfl, rfl⟩) | (go_at_call 8; refine (lives22_any _).mono ?_; rintro e w2 ⟨rfl, hb2⟩))
  go_ret
  exact ⟨rfl, HEND.out _ hb2⟩

set_option maxRecDepth 100000 in
set_option maxHeartbeats 3200000 in
theorem marksShifts_f4 (a : Option Addr) (l : List Mrk) (c : Nat) (t o en : ByteArray) (p : Int) (w : World) (fp : Pcs w ⟨a, l, c⟩) (fl : l.length ≤ c ∧ c ≤ maxLen) (ff : ∀ x ∈ l, x.fits) (ht : t.size ≤ maxLen) (ho : o.size ≤ maxLen) (hen : en.size ≤ maxLen) (h1 : l.length ≤ 40) (h2 : t.size ≤ 600) (h3 : o.size ≤ 600) (h4 : 600 < en.size) :
    Calls Try.prog 5 #[.slice a l.length c, .string t, .agg #[.int .i64 p, .string o, .string en]] w fun e w' => e = .returned (.bool true) ∧ Below w.heap.size w w' := by
  unfold maxLen at ht ho hen
  have cfew := few_any a l.length c
  rw [decide_eq_true h1] at cfew
  obtain ⟨wX, hwX⟩ : ∃ wX, w.alloc (.cells #[.int .i64 p, .string o, .string en] 38) = wX := ⟨_, rfl⟩
  have hb0 : Below w.heap.size w (w.alloc (.cells #[.int .i64 p, .string o, .string en] 38)) := (Below.refl w.heap.size w).alloc (Nat.le_refl _) _
  obtain ⟨x0, x1, x2⟩ := box_ed (N := w.heap.size + 1) (by omega) (Below.refl (w.heap.size + 1) (w.alloc (.cells #[.int .i64 p, .string o, .string en] 38)))
  have hX1 : w.heap.size + 1 ≤ wX.heap.size := by rw [← hwX]; simp
  rw [hwX] at x0 x1 x2 hb0
  have hpX : Pcs wX ⟨a, l, c⟩ := fp.later hb0
  have HEND := Lib.hid (fun w' (h : Below wX.heap.size wX w') => hb0.trans (h.mono (by omega)))
  have HXB := Lib.hid (show w.heap.size < wX.heap.size by omega)
  obtain ⟨n, hn⟩ : ∃ n, l.length = n := ⟨_, rfl⟩
  rw [hn] at cfew ⊢
  have CF := Lib.hid cfew
  clear cfew hn fp fl ff hpX hb0 h1
  go_enter Try.func5, Try.ntmps5
  go_wp2_with (first | (go_at_call 7; refine (CF.out _).mono ?_; rintro e w1 ⟨rfl, rfl⟩) | (go_at_call 8; refine (lives22_any _).mono ?_; rintro e w2 ⟨rfl, hb2⟩))
  go_ret
  exact ⟨rfl, HEND.out _ hb2⟩

set_option maxRecDepth 100000 in
set_option maxHeartbeats 3200000 in
theorem marksShifts_f5 (a : Option Addr) (l : List Mrk) (c : Nat) (t o en : ByteArray) (p : Int) (w : World) (fp : Pcs w ⟨a, l, c⟩) (fl : l.length ≤ c ∧ c ≤ maxLen) (ff : ∀ x ∈ l, x.fits) (ht : t.size ≤ maxLen) (ho : o.size ≤ maxLen) (hen : en.size ≤ maxLen) (h1 : l.length ≤ 40) (h2 : t.size ≤ 600) (h3 : o.size ≤ 600) (h4 : en.size ≤ 600) (h5 : rightM l t = false) :
    Calls Try.prog 5 #[.slice a l.length c, .string t, .agg #[.int .i64 p, .string o, .string en]] w fun e w' => e = .returned (.bool true) ∧ Below w.heap.size w w' := by
  unfold maxLen at ht ho hen
  have cfew := few_any a l.length c
  rw [decide_eq_true h1] at cfew
  obtain ⟨wX, hwX⟩ : ∃ wX, w.alloc (.cells #[.int .i64 p, .string o, .string en] 38) = wX := ⟨_, rfl⟩
  have hb0 : Below w.heap.size w (w.alloc (.cells #[.int .i64 p, .string o, .string en] 38)) := (Below.refl w.heap.size w).alloc (Nat.le_refl _) _
  obtain ⟨x0, x1, x2⟩ := box_ed (N := w.heap.size + 1) (by omega) (Below.refl (w.heap.size + 1) (w.alloc (.cells #[.int .i64 p, .string o, .string en] 38)))
  have hX1 : w.heap.size + 1 ≤ wX.heap.size := by rw [← hwX]; simp
  rw [hwX] at x0 x1 x2 hb0
  have hpX : Pcs wX ⟨a, l, c⟩ := fp.later hb0
  have HEND := Lib.hid (fun w' (h : Below wX.heap.size wX w') => hb0.trans (h.mono (by omega)))
  have HXB := Lib.hid (show w.heap.size < wX.heap.size by omega)
  have cr := fun W (hW : Below wX.heap.size wX W) => rright22_any a l c t _ W (hpX.later hW).row (fun _ h => h) (by omega) (fun x hx => (ff x hx).1) (by omega)
  rw [h5] at cr
  have cv := rvalid_any t (by omega)
  obtain ⟨n, hn⟩ : ∃ n, l.length = n := ⟨_, rfl⟩
  rw [hn] at cfew cr ⊢
  have CF := Lib.hid cfew; have CR := Lib.hid cr
  clear cfew hn fp fl ff hpX hb0 h1 h5 cr cv
  go_enter Try.func5, Try.ntmps5
  go_wp2_with fail
  refine (CF.out _).mono ?_; rintro e w1 ⟨rfl, rfl⟩
  go_wp2_with fail
  refine (CR.out _ (Below.refl _ _)).mono ?_; rintro e w1 ⟨rfl, hb1⟩
  go_wp2_with fail
  refine (lives22_any _).mono ?_; rintro e w2 ⟨rfl, hb2⟩
  have HB := Lib.hid (hb1.trans (hb2.mono hb1.size))
  clear hb1 hb2
  go_wp2
  go_ret
  exact ⟨rfl, HEND.out _ HB.out⟩

set_option maxRecDepth 100000 in
set_option maxHeartbeats 3200000 in
theorem marksShifts_f6 (a : Option Addr) (l : List Mrk) (c : Nat) (t o en : ByteArray) (p : Int) (w : World) (fp : Pcs w ⟨a, l, c⟩) (fl : l.length ≤ c ∧ c ≤ maxLen) (ff : ∀ x ∈ l, x.fits) (ht : t.size ≤ maxLen) (ho : o.size ≤ maxLen) (hen : en.size ≤ maxLen) (h1 : l.length ≤ 40) (h2 : t.size ≤ 600) (h3 : o.size ≤ 600) (h4 : en.size ≤ 600) (h5 : rightM l t = true) (h6 : vldB t.data.toList = false) :
    Calls Try.prog 5 #[.slice a l.length c, .string t, .agg #[.int .i64 p, .string o, .string en]] w fun e w' => e = .returned (.bool true) ∧ Below w.heap.size w w' := by
  unfold maxLen at ht ho hen
  have cfew := few_any a l.length c
  rw [decide_eq_true h1] at cfew
  obtain ⟨wX, hwX⟩ : ∃ wX, w.alloc (.cells #[.int .i64 p, .string o, .string en] 38) = wX := ⟨_, rfl⟩
  have hb0 : Below w.heap.size w (w.alloc (.cells #[.int .i64 p, .string o, .string en] 38)) := (Below.refl w.heap.size w).alloc (Nat.le_refl _) _
  obtain ⟨x0, x1, x2⟩ := box_ed (N := w.heap.size + 1) (by omega) (Below.refl (w.heap.size + 1) (w.alloc (.cells #[.int .i64 p, .string o, .string en] 38)))
  have hX1 : w.heap.size + 1 ≤ wX.heap.size := by rw [← hwX]; simp
  rw [hwX] at x0 x1 x2 hb0
  have hpX : Pcs wX ⟨a, l, c⟩ := fp.later hb0
  have HEND := Lib.hid (fun w' (h : Below wX.heap.size wX w') => hb0.trans (h.mono (by omega)))
  have HXB := Lib.hid (show w.heap.size < wX.heap.size by omega)
  have cr := fun W (hW : Below wX.heap.size wX W) => rright22_any a l c t _ W (hpX.later hW).row (fun _ h => h) (by omega) (fun x hx => (ff x hx).1) (by omega)
  rw [h5] at cr
  have cv := rvalid_any t (by omega)
  rw [h6] at cv
  obtain ⟨n, hn⟩ : ∃ n, l.length = n := ⟨_, rfl⟩
  rw [hn] at cfew cr ⊢
  have CF := Lib.hid cfew; have CR := Lib.hid cr; have CV := Lib.hid cv
  clear cfew hn fp fl ff hpX hb0 h1 h5 h6 cr cv
  go_enter Try.func5, Try.ntmps5
  go_wp2_with fail
  refine (CF.out _).mono ?_; rintro e w1 ⟨rfl, rfl⟩
  go_wp2_with fail
  refine (CR.out _ (Below.refl _ _)).mono ?_; rintro e w1 ⟨rfl, hb1⟩
  go_wp2_with fail
  refine (CV.out _).mono ?_; rintro e w3 ⟨rfl, hb3⟩
  go_wp2_with fail
  refine (lives22_any _).mono ?_; rintro e w2 ⟨rfl, hb2⟩
  have HB := Lib.hid (hb1.trans ((hb3.trans (hb2.mono hb3.size)).mono hb1.size))
  clear hb1 hb2 hb3
  go_wp2
  go_ret
  exact ⟨rfl, HEND.out _ HB.out⟩

set_option maxRecDepth 100000 in
set_option maxHeartbeats 3200000 in
theorem marksShifts_f7 (a : Option Addr) (l : List Mrk) (c : Nat) (t o en : ByteArray) (p : Int) (w : World) (fp : Pcs w ⟨a, l, c⟩) (fl : l.length ≤ c ∧ c ≤ maxLen) (ff : ∀ x ∈ l, x.fits) (ht : t.size ≤ maxLen) (ho : o.size ≤ maxLen) (hen : en.size ≤ maxLen) (h1 : l.length ≤ 40) (h2 : t.size ≤ 600) (h3 : o.size ≤ 600) (h4 : en.size ≤ 600) (h5 : rightM l t = true) (h6 : vldB t.data.toList = true) (s : ByteArray) (r : Int) (h7 : appE t p o en = (s, r)) (h8 : r ≠ 0) :
    Calls Try.prog 5 #[.slice a l.length c, .string t, .agg #[.int .i64 p, .string o, .string en]] w fun e w' => e = .returned (.bool true) ∧ Below w.heap.size w w' := by
  unfold maxLen at ht ho hen
  have cfew := few_any a l.length c
  rw [decide_eq_true h1] at cfew
  obtain ⟨wX, hwX⟩ : ∃ wX, w.alloc (.cells #[.int .i64 p, .string o, .string en] 38) = wX := ⟨_, rfl⟩
  have hb0 : Below w.heap.size w (w.alloc (.cells #[.int .i64 p, .string o, .string en] 38)) := (Below.refl w.heap.size w).alloc (Nat.le_refl _) _
  obtain ⟨x0, x1, x2⟩ := box_ed (N := w.heap.size + 1) (by omega) (Below.refl (w.heap.size + 1) (w.alloc (.cells #[.int .i64 p, .string o, .string en] 38)))
  have hX1 : w.heap.size + 1 ≤ wX.heap.size := by rw [← hwX]; simp
  rw [hwX] at x0 x1 x2 hb0
  have hpX : Pcs wX ⟨a, l, c⟩ := fp.later hb0
  have HEND := Lib.hid (fun w' (h : Below wX.heap.size wX w') => hb0.trans (h.mono (by omega)))
  have HXB := Lib.hid (show w.heap.size < wX.heap.size by omega)
  have cr := fun W (hW : Below wX.heap.size wX W) => rright22_any a l c t _ W (hpX.later hW).row (fun _ h => h) (by omega) (fun x hx => (ff x hx).1) (by omega)
  rw [h5] at cr
  have cv := rvalid_any t (by omega)
  rw [h6] at cv
  have ca := rapply_any t o en (by omega) (by omega) (by omega) p
  rw [h7] at ca
  obtain ⟨n, hn⟩ : ∃ n, l.length = n := ⟨_, rfl⟩
  rw [hn] at cfew cr ⊢
  have h9 : (r == 0) = false := beq_eq_false_iff_ne.2 h8
  have CF := Lib.hid cfew; have CR := Lib.hid cr; have CV := Lib.hid cv; have CA := Lib.hid (show ∀ w, Calls Try.prog 20 #[.string t, .agg #[.int .i64 p, .string o, .string en]] w fun e w' => e = .returned (.tuple #[.string s, .int .i64 r]) ∧ Below w.heap.size w w' from ca)
  clear cfew hn fp fl ff hpX hb0 h1 h5 h6 cr cv ca h7
  go_enter Try.func5, Try.ntmps5
  go_wp2_with fail
  refine (CF.out _).mono ?_; rintro e w1 ⟨rfl, rfl⟩
  go_wp2_with fail
  refine (CR.out _ (Below.refl _ _)).mono ?_; rintro e w1 ⟨rfl, hb1⟩
  have HB1 := Lib.hid hb1; clear hb1
  go_wp2_with fail
  refine (CV.out _).mono ?_; rintro e w2 ⟨rfl, hb2⟩
  have HB2 := Lib.hid (HB1.out.trans (hb2.mono HB1.out.size)); clear hb2
  have y0 := (HB2.out.cell (p := ⟨w.heap.size, 0, none⟩) HXB.out).trans x0
  have y1 := (HB2.out.cell (p := ⟨w.heap.size, 1, none⟩) HXB.out).trans x1
  have y2 := (HB2.out.cell (p := ⟨w.heap.size, 2, none⟩) HXB.out).trans x2
  go_wp2_with fail
  refine (CA.out _).mono ?_; rintro e w3 ⟨rfl, hb3⟩
  have HB3 := Lib.hid (HB2.out.trans (hb3.mono HB2.out.size)); clear hb3 y0 y1 y2
  go_wp2_with fail
  refine (lives22_any _).mono ?_; rintro e w4 ⟨rfl, hb4⟩
  have HB := Lib.hid (HB3.out.trans (hb4.mono HB3.out.size))
  clear hb4
  go_wp2
  go_ret
  exact ⟨rfl, HEND.out _ HB.out⟩

set_option maxRecDepth 100000 in
set_option maxHeartbeats 3200000 in
theorem marksShifts_go (a : Option Addr) (l : List Mrk) (c : Nat) (t o en : ByteArray) (p : Int) (w : World) (fp : Pcs w ⟨a, l, c⟩) (fl : l.length ≤ c ∧ c ≤ maxLen) (ff : ∀ x ∈ l, x.fits) (ht : t.size ≤ maxLen) (ho : o.size ≤ maxLen) (hen : en.size ≤ maxLen) (h1 : l.length ≤ 40) (h2 : t.size ≤ 600) (h3 : o.size ≤ 600) (h4 : en.size ≤ 600) (h5 : rightM l t = true) (h6 : vldB t.data.toList = true) (s : ByteArray) (h7 : appE t p o en = (s, 0)) :
    Calls Try.prog 5 #[.slice a l.length c, .string t, .agg #[.int .i64 p, .string o, .string en]] w fun e w' => e = .returned (.bool true) ∧ Below w.heap.size w w' := by
  unfold maxLen at ht ho hen
  obtain ⟨i0, hi, hz0, hz1, hz2⟩ := info_parts mrk_info
  have cfew := few_any a l.length c
  rw [decide_eq_true h1] at cfew
  obtain ⟨wX, hwX⟩ : ∃ wX, w.alloc (.cells #[.int .i64 p, .string o, .string en] 38) = wX := ⟨_, rfl⟩
  have hb0 : Below w.heap.size w (w.alloc (.cells #[.int .i64 p, .string o, .string en] 38)) := (Below.refl w.heap.size w).alloc (Nat.le_refl _) _
  obtain ⟨x0, x1, x2⟩ := box_ed (N := w.heap.size + 1) (by omega) (Below.refl (w.heap.size + 1) (w.alloc (.cells #[.int .i64 p, .string o, .string en] 38)))
  have hX1 : w.heap.size + 1 ≤ wX.heap.size := by rw [← hwX]; simp
  rw [hwX] at x0 x1 x2 hb0
  have hpX : Pcs wX ⟨a, l, c⟩ := fp.later hb0
  have HEND := Lib.hid (fun w' (h : Below wX.heap.size wX w') => hb0.trans (h.mono (by omega)))
  have HXB := Lib.hid (show w.heap.size < wX.heap.size by omega)
  have cr := fun W (hW : Below wX.heap.size wX W) => rright22_any a l c t _ W (hpX.later hW).row (fun _ h => h) (by omega) (fun x hx => (ff x hx).1) (by omega)
  rw [h5] at cr
  have cv := rvalid_any t (by omega)
  rw [h6] at cv
  have ca := rapply_any t o en (by omega) (by omega) (by omega) p
  rw [h7] at ca
  have hin := right_in h5
  obtain ⟨k, hk, hkt, -⟩ := appE_zero h7
  have hz := (rightM_iff l t).1 h5
  have hbnd : ∀ x ∈ l, -2305843009213693952 ≤ x.p ∧ x.p ≤ 2305843009213693952 := fun x hx => by have := hin x hx; omega
  have hpb : -2305843009213693952 ≤ p ∧ p ≤ 2305843009213693952 := by omega
  have c1 := fun W (hW : Below wX.heap.size wX W) => mshift_any a l c p o en W (hpX.later hW) (by omega) (by omega) (by omega) hpb hbnd
  have c2 := fun W (hW : Below wX.heap.size wX W) => rshift22_any a l c p o en _ W (hpX.later hW).row (fun _ h => h) (by omega) (by omega) (by omega) hpb hbnd
  have hrs := right_shift h6 h7 h5
  have hnm : ∀ x ∈ shfM l (shiftI p o.size en.size), x.name.size ≤ maxLen := fun x hx => by
    unfold shfM at hx
    obtain ⟨y, hy, rfl⟩ := List.mem_map.1 hx
    exact (ff y hy).1
  have hsl := shfM_len l (shiftI p o.size en.size)
  have hl3 : l.length ≤ 1000000 := by omega
  have hss : s.size ≤ 4096 := by
    have := appE_size h7
    omega
  have c5 := fun (av : Option Addr) (cv : Nat) W (hW : Below wX.heap.size wX W) (hav : Mrks W (· < W.heap.size) av l) => same_yes av a l cv c W hav (hpX.later hW).row hl3
  obtain ⟨M, hM⟩ : ∃ M, shfM l (shiftI p o.size en.size) = M := ⟨_, rfl⟩
  rw [hM] at c1 c2 hrs hnm hsl
  have c3 := fun (av : Option Addr) (cv : Nat) W (hav : Mrks W (· < W.heap.size) av M) => rright22_any av M cv s _ W hav (fun _ h => h) (by omega) hnm (by omega)
  have c4 := fun (av : Option Addr) (cv : Nat) W (hav : Mrks W (· < W.heap.size) av M) => mright_any av M cv s _ W hav (fun _ h => h) hnm (by unfold maxLen; omega) (by omega)
  rw [hrs] at c3 c4
  have c6 := fun (av bv : Option Addr) (cv dv : Nat) W (hav : Mrks W (· < W.heap.size) av M) (hbv : Mrks W (· < W.heap.size) bv M) => same_yes av bv M cv dv W hav hbv (by omega)
  have hnews := fun ad (e : a = some ad) W (hW : Below wX.heap.size wX W) => mrks_news (B := (· < W.heap.size)) (ad := ad) (l := l) (w := W) (by have := (hpX.later hW).row; simp only [e] at this; exact this)
  have hnil : a = none → l = [] ∧ c = 0 := fun e => ⟨hpX.len e, hpX.nil e⟩
  have hfl := Mrk.flat_len l
  have hofl := one_flat l
  obtain ⟨n, hn⟩ : ∃ n, l.length = n := ⟨_, rfl⟩
  have hn0 : a = none → n = 0 := fun e => by rw [← hn, (hnil e).1]; rfl
  rw [hn] at cfew cr c1 c2 c5 hfl hsl h1 ⊢
  obtain ⟨m, hm⟩ : ∃ m, M.length = m := ⟨_, rfl⟩
  have CF := Lib.hid cfew; have CR := Lib.hid cr; have CV := Lib.hid cv; have CA := Lib.hid (show ∀ w, Calls Try.prog 20 #[.string t, .agg #[.int .i64 p, .string o, .string en]] w fun e w' => e = .returned (.tuple #[.string s, .int .i64 0]) ∧ Below w.heap.size w w' from ca)
  have C1 := Lib.hid c1; have C2 := Lib.hid c2; have C3 := Lib.hid c3; have C4 := Lib.hid c4; have C5 := Lib.hid c5; have C6 := Lib.hid c6; have HN := Lib.hid hn
  have HNW := Lib.hid hnews; have HNIL := Lib.hid hnil; have HFL := Lib.hid hfl; have HOF := Lib.hid hofl; have HN0 := Lib.hid hn0
  clear cfew hn fp fl ff hpX hb0 h5 h6 cr cv ca h7 c1 c2 c3 c4 c5 c6 hin hk hkt hz hbnd hpb hrs hnm hsl hl3 hss hM hnews hnil hfl hofl hn0 hX1 hm
  go_enter Try.func5, Try.ntmps5
  go_wp2_with fail
  refine (CF.out _).mono ?_; rintro e w1 ⟨rfl, rfl⟩
  go_wp2_with fail
  refine (CR.out _ (Below.refl _ _)).mono ?_; rintro e w1 ⟨rfl, hb1⟩
  have HB1 := Lib.hid hb1; clear hb1
  go_wp2_with fail
  refine (CV.out _).mono ?_; rintro e w2 ⟨rfl, hb2⟩
  have HB2 := Lib.hid (HB1.out.trans (hb2.mono HB1.out.size)); clear hb2
  have y0 := (HB2.out.cell (p := ⟨w.heap.size, 0, none⟩) HXB.out).trans x0
  have y1 := (HB2.out.cell (p := ⟨w.heap.size, 1, none⟩) HXB.out).trans x1
  have y2 := (HB2.out.cell (p := ⟨w.heap.size, 2, none⟩) HXB.out).trans x2
  go_wp2_with fail
  refine (CA.out _).mono ?_; rintro e w3 ⟨rfl, hb3⟩
  have HB3 := Lib.hid (HB2.out.trans (hb3.mono HB2.out.size)); clear hb3 y0 y1 y2
  go_upto_region 6 with fail
  clear hwX
  go_cut [9] (fun v wx => ∃ av cv, v = .slice av n cv ∧ Mrks wx (· < wx.heap.size) av l ∧ Below wX.heap.size wX wx)
  case first =>
    cases a with
    | none =>
      have l0 := (HNIL.out rfl).1
      have c0 := (HNIL.out rfl).2
      have n0 := HN0.out rfl
      subst l0
      subst c0
      subst n0
      have hown := own_empty w3 wX.heap.size HB3.out.size
      go_wp2_with (at_builtin; refine wpList_append_own_none rfl _ _ 22 rfl wX.heap.size 30 i0 2 Try.underlying22 hi _ _ _ rfl hown rfl ?_)
      go_meet
      exact ⟨_, _, rfl, fun k hk => absurd hk (by simp), HB3.out.alloc HB3.out.size _⟩
    | some ad =>
      have hown := own_empty w3 wX.heap.size HB3.out.size
      have hbA : Below wX.heap.size wX (w3.alloc (.cells #[] 30)) := HB3.out.alloc HB3.out.size _
      go_wp2_with (at_builtin; refine wpList_append_own _ rfl _ _ 22 rfl wX.heap.size 30 i0 _ 2 24 Try.underlying22 hi hz0 hz1 hz2 rfl (by decide) _ _ _ rfl hown ad n c (Mrk.flat l) rfl HFL.out (HNW.out ad rfl _ hbA) HOF.out (by unfold maxLen; omega) (by omega) hbA.size ?_; intro v1 w4 ho1 hg1 _)
      have hb2 : Below wX.heap.size wX w4 := hbA.grown hg1 hbA.size (own_block hown)
      have ho2 : w4.ownsRow wX.heap.size 30 2 v1 l.length (Mrk.flat l) := by rw [HN.out]; simpa using ho1
      obtain ⟨av, cv, rfl, hv⟩ := own_mrks ho2
      rw [HN.out]
      have HV := Lib.hid (hv.more (B' := (· < w4.heap.size)) fun b hb => hb.2); have HB4 := Lib.hid hb2
      clear hv hb2 ho1 ho2 hg1 hown hbA
      go_wp2
      go_meet
      exact ⟨av, cv, rfl, HV.out, HB4.out⟩
  case rest =>
    obtain ⟨av, cv, rfl, hv, hbw⟩ := hcut
    have HV := Lib.hid hv; have HB4 := Lib.hid hbw
    have y0 := (hbw.cell (p := ⟨w.heap.size, 0, none⟩) HXB.out).trans x0
    have y1 := (hbw.cell (p := ⟨w.heap.size, 1, none⟩) HXB.out).trans x1
    have y2 := (hbw.cell (p := ⟨w.heap.size, 2, none⟩) HXB.out).trans x2
    clear hv hbw
    go_wp2_with fail
    refine (C1.out _ HB4.out).mono ?_; rintro e w5 ⟨a5, c5, rfl, hm5, hb5⟩
    have HB5 := Lib.hid (HB4.out.trans (hb5.mono HB4.out.size))
    have HV5 := Lib.hid (mrks_on HV.out hb5); have HM5 := Lib.hid (hm5.more (B' := (· < w5.heap.size)) fun b hb => hb.2)
    have z0 := (HB5.out.cell (p := ⟨w.heap.size, 0, none⟩) HXB.out).trans x0
    have z1 := (HB5.out.cell (p := ⟨w.heap.size, 1, none⟩) HXB.out).trans x1
    have z2 := (HB5.out.cell (p := ⟨w.heap.size, 2, none⟩) HXB.out).trans x2
    clear hm5 hb5 y0 y1 y2
    go_wp2_with fail
    refine (C2.out _ HB5.out).mono ?_; rintro e w6 ⟨a6, c6, rfl, hm6, hb6⟩
    have HB6 := Lib.hid (HB5.out.trans (hb6.mono HB5.out.size))
    have HV6 := Lib.hid (mrks_on HV5.out hb6); have HM56 := Lib.hid (mrks_on HM5.out hb6); have HM6 := Lib.hid (hm6.more (B' := (· < w6.heap.size)) fun b hb => hb.2)
    clear hm6 hb6 z0 z1 z2
    go_wp2_with fail
    refine (C6.out a5 a6 c5 c6 _ HM56.out HM6.out).mono ?_; rintro e w7 ⟨rfl, hb7⟩
    have HB7 := Lib.hid (HB6.out.trans (hb7.mono HB6.out.size))
    have HV7 := Lib.hid (mrks_on HV6.out hb7); have HM57 := Lib.hid (mrks_on HM56.out hb7)
    clear hb7
    go_wp2_with fail
    refine (C3.out a5 c5 _ HM57.out).mono ?_; rintro e w8 ⟨rfl, hb8⟩
    have HB8 := Lib.hid (HB7.out.trans (hb8.mono HB7.out.size))
    have HV8 := Lib.hid (mrks_on HV7.out hb8); have HM58 := Lib.hid (mrks_on HM57.out hb8)
    clear hb8
    go_wp2_with fail
    refine (C4.out a5 c5 _ HM58.out).mono ?_; rintro e w9 ⟨rfl, hb9⟩
    have HB9 := Lib.hid (HB8.out.trans (hb9.mono HB8.out.size))
    have HV9 := Lib.hid (mrks_on HV8.out hb9)
    clear hb9
    go_wp2_with fail
    refine (C5.out av cv _ HB9.out HV9.out).mono ?_; rintro e w10 ⟨rfl, hb10⟩
    have HB10 := Lib.hid (HB9.out.trans (hb10.mono HB9.out.size))
    clear hb10
    go_wp2_with fail
    refine (lives22_any _).mono ?_; rintro e w11 ⟨rfl, hb11⟩
    have HB11 := Lib.hid (HB10.out.trans (hb11.mono HB10.out.size))
    clear hb11
    go_wp2
    go_ret
    exact ⟨rfl, HEND.out _ HB11.out⟩

theorem marksShifts_walk (a : Option Addr) (l : List Mrk) (c : Nat) (t : ByteArray) (x : Edt) (w : World) (fp : Pcs w ⟨a, l, c⟩) (fl : l.length ≤ c ∧ c ≤ maxLen) (ff : ∀ x ∈ l, x.fits) (ht : t.size ≤ maxLen) (fx : x.fits) :
    Calls Try.prog 5 #[.slice a l.length c, .string t, x.v] w fun e w' => e = .returned (.bool true) ∧ Below w.heap.size w w' := by
  obtain ⟨p, o, en⟩ := x
  obtain ⟨-, ho, hen⟩ := fx
  by_cases h1 : l.length ≤ 40
  case neg => exact marksShifts_f1 a l c t o en p w fp fl ff ht ho hen h1
  by_cases h2 : t.size ≤ 600
  case neg => exact marksShifts_f2 a l c t o en p w fp fl ff ht ho hen h1 (by omega)
  by_cases h3 : o.size ≤ 600
  case neg => exact marksShifts_f3 a l c t o en p w fp fl ff ht ho hen h1 h2 (by omega)
  by_cases h4 : en.size ≤ 600
  case neg => exact marksShifts_f4 a l c t o en p w fp fl ff ht ho hen h1 h2 h3 (by omega)
  by_cases h5 : rightM l t = true
  case neg => exact marksShifts_f5 a l c t o en p w fp fl ff ht ho hen h1 h2 h3 h4 (by simpa using h5)
  by_cases h6 : vldB t.data.toList = true
  case neg => exact marksShifts_f6 a l c t o en p w fp fl ff ht ho hen h1 h2 h3 h4 h5 (by simpa using h6)
  obtain ⟨⟨s, r⟩, h7⟩ : ∃ z, appE t p o en = z := ⟨_, rfl⟩
  by_cases h8 : r = 0
  · subst h8
    exact marksShifts_go a l c t o en p w fp fl ff ht ho hen h1 h2 h3 h4 h5 h6 s h7
  · exact marksShifts_f7 a l c t o en p w fp fl ff ht ho hen h1 h2 h3 h4 h5 h6 s r h7 h8
end Go.Proofs.Ytimlfgjljnkbcaa
