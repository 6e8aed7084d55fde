/-
  Joined: DkNob.
-/
import Derived.Test.YtfgecjlccngddaaGreatJDkDevA
namespace Go.Proofs.YtfgecjlccngddaaGreat
set_option linter.unusedSimpArgs false
set_option linter.unusedVariables false
open Go.RowKit
set_option linter.unusedVariables false

/-- What no call made. -/
def NobK (w : World) (v : Value) : Prop := v = .pointer none ∨ ∃ b, v = .pointer (some ⟨b, 0, none⟩) ∧ Blk w b #[.int .i64 0, .map none, .pointer none, .pointer none, .int .i64 0, .int .i64 0] 67
theorem NobK.below {w w' : World} {v : Value} (h : NobK w v) (hb : Below w.heap.size w w') : NobK w' v := by
  rcases h with rfl | ⟨b, rfl, h⟩
  · exact .inl rfl
  · exact .inr ⟨b, rfl, Blk.onto h hb⟩
set_option maxRecDepth 100000 in
set_option maxHeartbeats 400000 in
theorem dmade_nob {w : World} {v : Value} (h : NobK w v) : Calls Tryz.prog 33 #[v] w fun e w' => e = .returned (.bool false) ∧ w = w' := by
  have hq := fun w => run_neq_map_nil (P := Tryz.prog) w 63 _ _ none Tryz.underlying63
  rcases h with rfl | ⟨b, rfl, h⟩
  · go_enter Tryz.func33, Tryz.ntmps33
    go_wp2
    go_ret
    exact ⟨rfl, rfl⟩
  · have c1 := h.cell 1 _ rfl
    clear h
    go_enter Tryz.func33, Tryz.ntmps33
    go_wp2
    go_ret
    exact ⟨rfl, rfl⟩
set_option maxRecDepth 100000 in
set_option maxHeartbeats 800000 in
theorem dready_nob {w : World} {p : Option Addr} (h : NobK w (.pointer p)) :
    Calls Tryz.prog 37 #[.pointer p] w fun e w' => e = .returned (.int .i64 1) ∧ Below w.heap.size w w' := by
  have CR := Lib.hid (dmade_nob h)
  clear h
  go_enter Tryz.func37, Tryz.ntmps37
  go_wp2_with (go_at_call 33; refine CR.out.mono ?_; rintro e w1 ⟨rfl, rfl⟩)
  go_ret
  exact ⟨rfl, Below.refl _ _⟩
set_option maxRecDepth 100000 in
set_option maxHeartbeats 800000 in
theorem dfind_nob {w : World} {p : Option Addr} (h : NobK w (.pointer p)) (s : ByteArray) :
    Calls Tryz.prog 43 #[.pointer p, .string s] w fun e w' => e = .returned (.tuple #[.int .i64 0, .int .i64 1]) ∧ Below w.heap.size w w' := by
  have CR := Lib.hid (dready_nob h)
  clear h
  go_enter Tryz.func43, Tryz.ntmps43
  go_wp2_with (go_at_call 37; refine CR.out.mono ?_; rintro e w1 ⟨rfl, hb1⟩)
  go_ret2
  exact ⟨rfl, hb1⟩
set_option maxRecDepth 100000 in
set_option maxHeartbeats 800000 in
theorem dkcreate_nob {w : World} {p : Option Addr} (h : NobK w (.pointer p)) (s : ByteArray) :
    Calls Tryz.prog 10 #[.pointer p, .string s] w fun e w' => e = .returned (.int .i64 1) ∧ Below w.heap.size w w' := by
  obtain ⟨w0, hw0⟩ : ∃ w0, w0 = ((w.alloc (.cells #[.pointer p] 23)).alloc (.cells #[.string s] 9)) := ⟨_, rfl⟩
  have hb0 : Below w.heap.size w w0 := by rw [hw0]; exact (((Below.refl _ w).alloc (by simp; try omega) _).alloc (by simp; try omega) _)
  have k0 : Blk w0 w.heap.size #[.pointer p] 23 := by rw [hw0]; have := ((Blk.new w #[.pointer p] 23).alloc (.cells #[.string s] 9)); simpa using this
  have k1 : Blk w0 (w.heap.size + 1) #[.string s] 9 := by rw [hw0]; have := (Blk.new (w.alloc (.cells #[.pointer p] 23)) #[.string s] 9); simpa using this
  have CR := Lib.hid (dready_nob (h.below hb0))
  have HB := Lib.hid hb0
  have x0 := k0.cell 0 _ rfl; have x1 := k1.cell 0 _ rfl
  clear h hb0 k0 k1
  subst hw0
  go_enter Tryz.func10, Tryz.ntmps10
  go_wp2_with (go_at_call 37; refine CR.out.mono ?_; rintro e w1 ⟨rfl, hb1⟩)
  go_ret
  exact ⟨rfl, HB.out.trans (hb1.mono HB.out.size)⟩
set_option maxRecDepth 100000 in
set_option maxHeartbeats 800000 in
theorem dkappend_nob {w : World} {p : Option Addr} (h : NobK w (.pointer p)) (s b : ByteArray) :
    Calls Tryz.prog 11 #[.pointer p, .string s, .string b] w fun e w' => e = .returned (.int .i64 1) ∧ Below w.heap.size w w' := by
  obtain ⟨w0, hw0⟩ : ∃ w0, w0 = (w.alloc (.cells #[.pointer p] 23)) := ⟨_, rfl⟩
  have hb0 : Below w.heap.size w w0 := by rw [hw0]; exact ((Below.refl _ w).alloc (by simp; try omega) _)
  have k0 : Blk w0 w.heap.size #[.pointer p] 23 := by rw [hw0]; have := (Blk.new w #[.pointer p] 23); simpa using this
  have CR := Lib.hid (dfind_nob (h.below hb0) s)
  have HB := Lib.hid hb0
  have x0 := k0.cell 0 _ rfl
  clear h hb0 k0
  subst hw0
  go_enter Tryz.func11, Tryz.ntmps11
  go_wp2_with (go_at_call 43; refine CR.out.mono ?_; rintro e w1 ⟨rfl, hb1⟩)
  go_ret
  have hbx := HB.out.trans (hb1.mono HB.out.size)
  exact ⟨rfl, hbx.alloc hbx.size _⟩
set_option maxRecDepth 100000 in
set_option maxHeartbeats 800000 in
theorem dkcut_nob {w : World} {p : Option Addr} (h : NobK w (.pointer p)) (s : ByteArray) (m : Int) :
    Calls Tryz.prog 25 #[.pointer p, .string s, .int .i64 m] w fun e w' => e = .returned (.int .i64 1) ∧ Below w.heap.size w w' := by
  obtain ⟨w0, hw0⟩ : ∃ w0, w0 = (w.alloc (.cells #[.pointer p] 23)) := ⟨_, rfl⟩
  have hb0 : Below w.heap.size w w0 := by rw [hw0]; exact ((Below.refl _ w).alloc (by simp; try omega) _)
  have k0 : Blk w0 w.heap.size #[.pointer p] 23 := by rw [hw0]; have := (Blk.new w #[.pointer p] 23); simpa using this
  have CR := Lib.hid (dfind_nob (h.below hb0) s)
  have HB := Lib.hid hb0
  have x0 := k0.cell 0 _ rfl
  clear h hb0 k0
  subst hw0
  go_enter Tryz.func25, Tryz.ntmps25
  go_wp2_with (go_at_call 43; refine CR.out.mono ?_; rintro e w1 ⟨rfl, hb1⟩)
  go_ret
  have hbx := HB.out.trans (hb1.mono HB.out.size)
  exact ⟨rfl, hbx.alloc hbx.size _⟩
set_option maxRecDepth 100000 in
set_option maxHeartbeats 800000 in
theorem dksync_nob {w : World} {p : Option Addr} (h : NobK w (.pointer p)) (s : ByteArray) :
    Calls Tryz.prog 19 #[.pointer p, .string s] w fun e w' => e = .returned (.int .i64 1) ∧ Below w.heap.size w w' := by
  have CR := Lib.hid (dfind_nob h s)
  clear h
  go_enter Tryz.func19, Tryz.ntmps19
  go_wp2_with (go_at_call 43; refine CR.out.mono ?_; rintro e w1 ⟨rfl, hb1⟩)
  go_ret
  exact ⟨rfl, hb1⟩
set_option maxRecDepth 100000 in
set_option maxHeartbeats 800000 in
theorem dkrename_nob {w : World} {p : Option Addr} (h : NobK w (.pointer p)) (s d : ByteArray) :
    Calls Tryz.prog 21 #[.pointer p, .string s, .string d] w fun e w' => e = .returned (.int .i64 1) ∧ Below w.heap.size w w' := by
  obtain ⟨w0, hw0⟩ : ∃ w0, w0 = (((w.alloc (.cells #[.pointer p] 23)).alloc (.cells #[.string s] 9)).alloc (.cells #[.string d] 9)) := ⟨_, rfl⟩
  have hb0 : Below w.heap.size w w0 := by rw [hw0]; exact ((((Below.refl _ w).alloc (by simp; try omega) _).alloc (by simp; try omega) _).alloc (by simp; try omega) _)
  have k0 : Blk w0 w.heap.size #[.pointer p] 23 := by rw [hw0]; have := (((Blk.new w #[.pointer p] 23).alloc (.cells #[.string s] 9)).alloc (.cells #[.string d] 9)); simpa using this
  have k1 : Blk w0 (w.heap.size + 1) #[.string s] 9 := by rw [hw0]; have := ((Blk.new (w.alloc (.cells #[.pointer p] 23)) #[.string s] 9).alloc (.cells #[.string d] 9)); simpa using this
  have k2 : Blk w0 (w.heap.size + 2) #[.string d] 9 := by rw [hw0]; have := (Blk.new ((w.alloc (.cells #[.pointer p] 23)).alloc (.cells #[.string s] 9)) #[.string d] 9); simpa using this
  have CR := Lib.hid (dfind_nob (h.below hb0) s)
  have HB := Lib.hid hb0
  have x0 := k0.cell 0 _ rfl; have x1 := k1.cell 0 _ rfl; have x2 := k2.cell 0 _ rfl
  clear h hb0 k0 k1 k2
  subst hw0
  go_enter Tryz.func21, Tryz.ntmps21
  go_wp2_with (go_at_call 43; refine CR.out.mono ?_; rintro e w1 ⟨rfl, hb1⟩)
  go_ret
  exact ⟨rfl, HB.out.trans (hb1.mono HB.out.size)⟩
set_option maxRecDepth 100000 in
set_option maxHeartbeats 800000 in
theorem dkremove_nob {w : World} {p : Option Addr} (h : NobK w (.pointer p)) (s : ByteArray) :
    Calls Tryz.prog 22 #[.pointer p, .string s] w fun e w' => e = .returned (.int .i64 1) ∧ Below w.heap.size w w' := by
  obtain ⟨w0, hw0⟩ : ∃ w0, w0 = ((w.alloc (.cells #[.pointer p] 23)).alloc (.cells #[.string s] 9)) := ⟨_, rfl⟩
  have hb0 : Below w.heap.size w w0 := by rw [hw0]; exact (((Below.refl _ w).alloc (by simp; try omega) _).alloc (by simp; try omega) _)
  have k0 : Blk w0 w.heap.size #[.pointer p] 23 := by rw [hw0]; have := ((Blk.new w #[.pointer p] 23).alloc (.cells #[.string s] 9)); simpa using this
  have k1 : Blk w0 (w.heap.size + 1) #[.string s] 9 := by rw [hw0]; have := (Blk.new (w.alloc (.cells #[.pointer p] 23)) #[.string s] 9); simpa using this
  have CR := Lib.hid (dfind_nob (h.below hb0) s)
  have HB := Lib.hid hb0
  have x0 := k0.cell 0 _ rfl; have x1 := k1.cell 0 _ rfl
  clear h hb0 k0 k1
  subst hw0
  go_enter Tryz.func22, Tryz.ntmps22
  go_wp2_with (go_at_call 43; refine CR.out.mono ?_; rintro e w1 ⟨rfl, hb1⟩)
  go_ret
  exact ⟨rfl, HB.out.trans (hb1.mono HB.out.size)⟩
set_option maxRecDepth 100000 in
set_option maxHeartbeats 800000 in
theorem dksyncall_nob {w : World} {p : Option Addr} (h : NobK w (.pointer p)) :
    Calls Tryz.prog 20 #[.pointer p] w fun e w' => e = .returned (.int .i64 1) ∧ Below w.heap.size w w' := by
  obtain ⟨w0, hw0⟩ : ∃ w0, w0 = (w.alloc (.cells #[.pointer p] 23)) := ⟨_, rfl⟩
  have hb0 : Below w.heap.size w w0 := by rw [hw0]; exact ((Below.refl _ w).alloc (by simp; try omega) _)
  have k0 : Blk w0 w.heap.size #[.pointer p] 23 := by rw [hw0]; have := (Blk.new w #[.pointer p] 23); simpa using this
  have CR := Lib.hid (dready_nob (h.below hb0))
  have HB := Lib.hid hb0
  have x0 := k0.cell 0 _ rfl
  clear h hb0 k0
  subst hw0
  go_enter Tryz.func20, Tryz.ntmps20
  go_wp2_with (go_at_call 37; refine CR.out.mono ?_; rintro e w1 ⟨rfl, hb1⟩)
  go_ret
  exact ⟨rfl, HB.out.trans (hb1.mono HB.out.size)⟩
set_option maxRecDepth 100000 in
set_option maxHeartbeats 800000 in
theorem dkread_nob {w : World} {p : Option Addr} (h : NobK w (.pointer p)) (s : ByteArray) :
    Calls Tryz.prog 23 #[.pointer p, .string s] w fun e w' => e = .returned (.tuple #[.string ByteArray.empty, .int .i64 1]) ∧ Below w.heap.size w w' := by
  have CR := Lib.hid (dfind_nob h s)
  clear h
  go_enter Tryz.func23, Tryz.ntmps23
  go_wp2_with (go_at_call 43; refine CR.out.mono ?_; rintro e w1 ⟨rfl, hb1⟩)
  go_ret2
  exact ⟨rfl, hb1⟩
set_option maxRecDepth 100000 in
set_option maxHeartbeats 800000 in
theorem dklist_nob {w : World} {p : Option Addr} (h : NobK w (.pointer p)) :
    Calls Tryz.prog 24 #[.pointer p] w fun e w' => e = .returned (.tuple #[.slice none 0 0, .int .i64 1]) ∧ Below w.heap.size w w' := by
  have CR := Lib.hid (dready_nob h)
  clear h
  go_enter Tryz.func24, Tryz.ntmps24
  go_wp2_with (go_at_call 37; refine CR.out.mono ?_; rintro e w1 ⟨rfl, hb1⟩)
  go_ret2
  exact ⟨rfl, hb1⟩
set_option maxRecDepth 100000 in
set_option maxHeartbeats 800000 in
theorem dkfiles_nob {w : World} {p : Option Addr} (h : NobK w (.pointer p)) :
    Calls Tryz.prog 27 #[.pointer p] w fun e w' => e = .returned (.slice none 0 0) ∧ Below w.heap.size w w' := by
  have CR := Lib.hid (dmade_nob h)
  clear h
  go_enter Tryz.func27, Tryz.ntmps27
  go_wp2_with (go_at_call 33; refine CR.out.mono ?_; rintro e w1 ⟨rfl, rfl⟩)
  go_ret
  exact ⟨rfl, Below.refl _ _⟩
set_option maxRecDepth 100000 in
set_option maxHeartbeats 800000 in
theorem dkfree_nob {w : World} {p : Option Addr} (h : NobK w (.pointer p)) :
    Calls Tryz.prog 28 #[.pointer p] w fun e w' => e = .returned (.int .i64 0) ∧ Below w.heap.size w w' := by
  have CR := Lib.hid (dmade_nob h)
  clear h
  go_enter Tryz.func28, Tryz.ntmps28
  go_wp2_with (go_at_call 33; refine CR.out.mono ?_; rintro e w1 ⟨rfl, rfl⟩)
  go_ret
  exact ⟨rfl, Below.refl _ _⟩
set_option maxRecDepth 100000 in
set_option maxHeartbeats 800000 in
theorem dkup_nob {w : World} {p : Option Addr} (h : NobK w (.pointer p)) :
    Calls Tryz.prog 30 #[.pointer p] w fun e w' => e = .returned (.bool false) ∧ Below w.heap.size w w' := by
  have CR := Lib.hid (dmade_nob h)
  clear h
  go_enter Tryz.func30, Tryz.ntmps30
  go_wp2_with (go_at_call 33; refine CR.out.mono ?_; rintro e w1 ⟨rfl, rfl⟩)
  go_ret
  exact ⟨rfl, Below.refl _ _⟩
set_option maxRecDepth 100000 in
set_option maxHeartbeats 800000 in
theorem dkcalls_nob {w : World} {p : Option Addr} (h : NobK w (.pointer p)) :
    Calls Tryz.prog 29 #[.pointer p] w fun e w' => e = .returned (.int .i64 0) ∧ Below w.heap.size w w' := by
  have CR := Lib.hid (dmade_nob h)
  clear h
  go_enter Tryz.func29, Tryz.ntmps29
  go_wp2_with (go_at_call 33; refine CR.out.mono ?_; rintro e w1 ⟨rfl, rfl⟩)
  go_ret
  exact ⟨rfl, Below.refl _ _⟩
set_option maxRecDepth 100000 in
set_option maxHeartbeats 800000 in
theorem dkcrash_nob {w : World} {p : Option Addr} (h : NobK w (.pointer p)) (s : ByteArray) :
    Calls Tryz.prog 12 #[.pointer p, .string s] w fun e w' => e = .returned (.int .i64 0) ∧ Below w.heap.size w w' := by
  obtain ⟨w0, hw0⟩ : ∃ w0, w0 = (w.alloc (.cells #[.string s] 9)) := ⟨_, rfl⟩
  have hb0 : Below w.heap.size w w0 := by rw [hw0]; exact ((Below.refl _ w).alloc (by simp; try omega) _)
  have k0 : Blk w0 w.heap.size #[.string s] 9 := by rw [hw0]; have := (Blk.new w #[.string s] 9); simpa using this
  have CR := Lib.hid (dmade_nob (h.below hb0))
  have HB := Lib.hid hb0
  have x0 := k0.cell 0 _ rfl
  clear h hb0 k0
  subst hw0
  go_enter Tryz.func12, Tryz.ntmps12
  go_wp2_with (go_at_call 33; refine CR.out.mono ?_; rintro e w1 ⟨rfl, rfl⟩)
  go_ret
  exact ⟨rfl, HB.out⟩
set_option maxRecDepth 100000 in
set_option maxHeartbeats 800000 in
theorem dkcopy_nob {w : World} {p : Option Addr} (h : NobK w (.pointer p)) :
    Calls Tryz.prog 9 #[.pointer p] w fun e w' => e = .returned (.pointer none) ∧ Below w.heap.size w w' := by
  have CR := Lib.hid (dmade_nob h)
  clear h
  go_enter Tryz.func9, Tryz.ntmps9
  go_wp2_with (go_at_call 33; refine CR.out.mono ?_; rintro e w1 ⟨rfl, rfl⟩)
  go_ret
  exact ⟨rfl, Below.refl _ _⟩
set_option maxRecDepth 100000 in
set_option maxHeartbeats 800000 in
theorem dkfault_nob {w : World} {p : Option Addr} (h : NobK w (.pointer p)) (k n : Int) :
    Calls Tryz.prog 26 #[.pointer p, .agg #[.int .i64 k, .int .i64 n]] w fun e w' => e = .returned (.int .i64 1) ∧ Below w.heap.size w w' := by
  obtain ⟨w0, hw0⟩ : ∃ w0, w0 = (w.alloc (.cells #[.int .i64 k, .int .i64 n] 38)) := ⟨_, rfl⟩
  have hb0 : Below w.heap.size w w0 := by rw [hw0]; exact ((Below.refl _ w).alloc (by simp; try omega) _)
  have k0 : Blk w0 w.heap.size #[.int .i64 k, .int .i64 n] 38 := by rw [hw0]; have := (Blk.new w #[.int .i64 k, .int .i64 n] 38); simpa using this
  have CR := Lib.hid (dready_nob (h.below hb0))
  have HB := Lib.hid hb0
  have x0 := k0.cell 0 _ rfl
  clear h hb0 k0
  subst hw0
  go_enter Tryz.func26, Tryz.ntmps26
  go_wp2_with (go_at_call 37; refine CR.out.mono ?_; rintro e w1 ⟨rfl, hb1⟩)
  go_ret
  exact ⟨rfl, HB.out.trans (hb1.mono HB.out.size)⟩
end Go.Proofs.YtfgecjlccngddaaGreat
