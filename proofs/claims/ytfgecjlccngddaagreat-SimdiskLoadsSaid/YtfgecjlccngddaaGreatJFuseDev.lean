/-
  Joined: FuseDev.
-/
import Derived.Test.YtfgecjlccngddaaGreatJFuseRef
import Derived.Test.YtfgecjlccngddaaGreatJBlk
import Derived.Deep.RegionHeld3
import Derived.Deep.RegionWith
import Derived.RegionTactic
namespace Go.Proofs.YtfgecjlccngddaaGreat
set_option linter.unusedSimpArgs false
set_option linter.unusedVariables false
open Go.RowKit
set_option linter.unusedVariables false

/-- The nine cells. -/
def fz (q : Int) (a0 : Bool) (h0 : Int) (a1 : Bool) (h1 : Int) (a2 : Bool) (h2 : Int) (a3 : Bool) (h3 : Int) : Array Value :=
  #[.int .i64 q, .bool a0, .int .i64 h0, .bool a1, .int .i64 h1, .bool a2, .int .i64 h2, .bool a3, .int .i64 h3]
/-- A fault in two cells. -/
def flt (a : Bool) (h : Int) : Int := if a = true then h else -1
def FzB (w : World) (b : Nat) (q : Int) (a0 : Bool) (h0 : Int) (a1 : Bool) (h1 : Int) (a2 : Bool) (h2 : Int) (a3 : Bool) (h3 : Int) : Prop :=
  Blk w b (fz q a0 h0 a1 h1 a2 h2 a3 h3) 127
theorem FzB.cells {w : World} {b : Nat} {q h0 h1 h2 h3 : Int} {a0 a1 a2 a3 : Bool} (h : FzB w b q a0 h0 a1 h1 a2 h2 a3 h3) :
    w.cell? ⟨b, 0, none⟩ = some (.int .i64 q) ∧ w.cell? ⟨b, 1, none⟩ = some (.bool a0) ∧ w.cell? ⟨b, 2, none⟩ = some (.int .i64 h0) ∧ w.cell? ⟨b, 3, none⟩ = some (.bool a1) ∧ w.cell? ⟨b, 4, none⟩ = some (.int .i64 h1) ∧
    w.cell? ⟨b, 5, none⟩ = some (.bool a2) ∧ w.cell? ⟨b, 6, none⟩ = some (.int .i64 h2) ∧ w.cell? ⟨b, 7, none⟩ = some (.bool a3) ∧ w.cell? ⟨b, 8, none⟩ = some (.int .i64 h3) :=
  ⟨h.cell 0 _ rfl, h.cell 1 _ rfl, h.cell 2 _ rfl, h.cell 3 _ rfl, h.cell 4 _ rfl, h.cell 5 _ rfl, h.cell 6 _ rfl, h.cell 7 _ rfl, h.cell 8 _ rfl⟩
theorem FzB.marks {w : World} {b : Nat} {q h0 h1 h2 h3 : Int} {a0 a1 a2 a3 : Bool} (h : FzB w b q a0 h0 a1 h1 a2 h2 a3 h3) :
    w.frozen? ⟨b, 0, none⟩ = false ∧ w.frozen? ⟨b, 1, none⟩ = false ∧ w.frozen? ⟨b, 2, none⟩ = false ∧ w.frozen? ⟨b, 3, none⟩ = false ∧ w.frozen? ⟨b, 4, none⟩ = false ∧
    w.frozen? ⟨b, 5, none⟩ = false ∧ w.frozen? ⟨b, 6, none⟩ = false ∧ w.frozen? ⟨b, 7, none⟩ = false ∧ w.frozen? ⟨b, 8, none⟩ = false :=
  ⟨h.free 0, h.free 1, h.free 2, h.free 3, h.free 4, h.free 5, h.free 6, h.free 7, h.free 8⟩

theorem FzB.set0 {w : World} {b : Nat} {q h0 h1 h2 h3 : Int} {a0 a1 a2 a3 : Bool} (h : FzB w b q a0 h0 a1 h1 a2 h2 a3 h3) (u : Int) : FzB (w.setCell ⟨b, 0, none⟩ (.int .i64 u)) b u a0 h0 a1 h1 a2 h2 a3 h3 := by
  have := Blk.set h 0 (.int .i64 u)
  simpa [FzB, fz] using this
theorem FzB.set1 {w : World} {b : Nat} {q h0 h1 h2 h3 : Int} {a0 a1 a2 a3 : Bool} (h : FzB w b q a0 h0 a1 h1 a2 h2 a3 h3) (u : Bool) : FzB (w.setCell ⟨b, 1, none⟩ (.bool u)) b q u h0 a1 h1 a2 h2 a3 h3 := by
  have := Blk.set h 1 (.bool u)
  simpa [FzB, fz] using this
theorem FzB.set2 {w : World} {b : Nat} {q h0 h1 h2 h3 : Int} {a0 a1 a2 a3 : Bool} (h : FzB w b q a0 h0 a1 h1 a2 h2 a3 h3) (u : Int) : FzB (w.setCell ⟨b, 2, none⟩ (.int .i64 u)) b q a0 u a1 h1 a2 h2 a3 h3 := by
  have := Blk.set h 2 (.int .i64 u)
  simpa [FzB, fz] using this
theorem FzB.set3 {w : World} {b : Nat} {q h0 h1 h2 h3 : Int} {a0 a1 a2 a3 : Bool} (h : FzB w b q a0 h0 a1 h1 a2 h2 a3 h3) (u : Bool) : FzB (w.setCell ⟨b, 3, none⟩ (.bool u)) b q a0 h0 u h1 a2 h2 a3 h3 := by
  have := Blk.set h 3 (.bool u)
  simpa [FzB, fz] using this
theorem FzB.set4 {w : World} {b : Nat} {q h0 h1 h2 h3 : Int} {a0 a1 a2 a3 : Bool} (h : FzB w b q a0 h0 a1 h1 a2 h2 a3 h3) (u : Int) : FzB (w.setCell ⟨b, 4, none⟩ (.int .i64 u)) b q a0 h0 a1 u a2 h2 a3 h3 := by
  have := Blk.set h 4 (.int .i64 u)
  simpa [FzB, fz] using this
theorem FzB.set5 {w : World} {b : Nat} {q h0 h1 h2 h3 : Int} {a0 a1 a2 a3 : Bool} (h : FzB w b q a0 h0 a1 h1 a2 h2 a3 h3) (u : Bool) : FzB (w.setCell ⟨b, 5, none⟩ (.bool u)) b q a0 h0 a1 h1 u h2 a3 h3 := by
  have := Blk.set h 5 (.bool u)
  simpa [FzB, fz] using this
theorem FzB.set6 {w : World} {b : Nat} {q h0 h1 h2 h3 : Int} {a0 a1 a2 a3 : Bool} (h : FzB w b q a0 h0 a1 h1 a2 h2 a3 h3) (u : Int) : FzB (w.setCell ⟨b, 6, none⟩ (.int .i64 u)) b q a0 h0 a1 h1 a2 u a3 h3 := by
  have := Blk.set h 6 (.int .i64 u)
  simpa [FzB, fz] using this
theorem FzB.set7 {w : World} {b : Nat} {q h0 h1 h2 h3 : Int} {a0 a1 a2 a3 : Bool} (h : FzB w b q a0 h0 a1 h1 a2 h2 a3 h3) (u : Bool) : FzB (w.setCell ⟨b, 7, none⟩ (.bool u)) b q a0 h0 a1 h1 a2 h2 u h3 := by
  have := Blk.set h 7 (.bool u)
  simpa [FzB, fz] using this
theorem FzB.set8 {w : World} {b : Nat} {q h0 h1 h2 h3 : Int} {a0 a1 a2 a3 : Bool} (h : FzB w b q a0 h0 a1 h1 a2 h2 a3 h3) (u : Int) : FzB (w.setCell ⟨b, 8, none⟩ (.int .i64 u)) b q a0 h0 a1 h1 a2 h2 a3 u := by
  have := Blk.set h 8 (.int .i64 u)
  simpa [FzB, fz] using this
/-- A fuse in memory: its block, and what it says. -/
def IsFuz (w : World) (S : List Nat) (a : Addr) (f : Fus) : Prop :=
  ∃ (b : Nat) (h0 h1 h2 h3 : Int) (a0 a1 a2 a3 : Bool), S = [b] ∧ a = ⟨b, 0, none⟩ ∧ FzB w b (if f.off = true then 2 else 1) a0 h0 a1 h1 a2 h2 a3 h3 ∧
    f.p = flt a1 h1 ∧ f.s = flt a2 h2 ∧ f.d = flt a3 h3 ∧ (0 ≤ h1 ∧ h1 ≤ 9223372036854775807) ∧ (0 ≤ h2 ∧ h2 ≤ 9223372036854775807) ∧ (0 ≤ h3 ∧ h3 ≤ 9223372036854775807)
structure IsFuse (w : World) (S : List Nat) (a : Addr) (f : Fus) : Prop where
  out : IsFuz w S a f
theorem IsFuse.lt {w : World} {S : List Nat} {a : Addr} {f : Fus} (h : IsFuse w S a f) : ∀ b ∈ S, b < w.heap.size := by
  obtain ⟨b, _, _, _, _, _, _, _, _, rfl, _, hb, _⟩ := h.out
  intro x hx
  rw [List.mem_singleton.1 hx]
  exact hb.lt
theorem IsFuse.kept {w w' : World} {S S' : List Nat} {a : Addr} {f : Fus} (h : IsFuse w S a f) (ha : Apart S' w w') (hs : ∀ b ∈ S, b ∉ S') : IsFuse w' S a f := by
  obtain ⟨b, h0, h1, h2, h3, a0, a1, a2, a3, rfl, e, hb, r⟩ := h.out
  exact ⟨⟨b, h0, h1, h2, h3, a0, a1, a2, a3, rfl, e, (ha.block b hb.lt (hs b (by simp))).trans hb, r⟩⟩
/-- A call of a fuse: it answers v, the fuse is f' then, and nothing but its own blocks has turned. -/
def UpdF (w : World) (S : List Nat) (a : Addr) (f' : Fus) (v : Value) (e : Ending) (w' : World) : Prop :=
  e = .returned v ∧ ∃ S', IsFuse w' S' a f' ∧ Apart S w w' ∧ ∀ b ∈ S', b ∈ S ∨ w.heap.size ≤ b
/-- A call that answers a fuse of its own. -/
def NewF (w : World) (f : Fus) (e : Ending) (w' : World) : Prop :=
  ∃ a S, e = .returned (.pointer (some a)) ∧ IsFuse w' S a f ∧ (∀ b ∈ S, w.heap.size ≤ b) ∧ Below w.heap.size w w'

theorem FzB.apart {w : World} {b : Nat} {p : Addr} (u : Value) {w0 : World} (h : Apart [b] w0 w) (hp : p.block = b) : Apart [b] w0 (w.setCell p u) := h.setCell (.inl (by simp [hp])) u
/-- A fault when its call comes: whether it comes, and its two cells then. -/
def struck (a : Bool) (h : Int) : Bool × Bool × Int := if a = true then (if h = 0 then (true, false, 0) else (false, true, h - 1)) else (false, false, h)

set_option maxRecDepth 100000 in
set_option maxHeartbeats 400000 in
theorem fmade_yes {w : World} {b : Nat} {q h0 h1 h2 h3 : Int} {a0 a1 a2 a3 : Bool} (h : FzB w b q a0 h0 a1 h1 a2 h2 a3 h3) (hq : q ≠ 0) :
    Calls Tryz.prog 88 #[.pointer (some ⟨b, 0, none⟩)] w fun e w' => e = .returned (.bool true) ∧ w = w' := by
  obtain ⟨c0, c1, c2, c3, c4, c5, c6, c7, c8⟩ := h.cells
  clear h c1 c2 c3 c4 c5 c6 c7 c8
  have hq' : (q == 0) = false := beq_eq_false_iff_ne.2 hq
  clear hq
  go_enter Tryz.func88, Tryz.ntmps88
  go_wp2
  go_ret
  exact ⟨by simpa using hq', rfl⟩
set_option maxRecDepth 100000 in
set_option maxHeartbeats 400000 in
theorem fmade_no {w : World} {b : Nat} {h0 h1 h2 h3 : Int} {a0 a1 a2 a3 : Bool} (h : FzB w b 0 a0 h0 a1 h1 a2 h2 a3 h3) :
    Calls Tryz.prog 88 #[.pointer (some ⟨b, 0, none⟩)] w fun e w' => e = .returned (.bool false) ∧ w = w' := by
  obtain ⟨c0, c1, c2, c3, c4, c5, c6, c7, c8⟩ := h.cells
  clear h c1 c2 c3 c4 c5 c6 c7 c8
  go_enter Tryz.func88, Tryz.ntmps88
  go_wp2
  go_ret
  exact ⟨rfl, rfl⟩
set_option maxRecDepth 100000 in
set_option maxHeartbeats 400000 in
theorem fmade_nil (w : World) : Calls Tryz.prog 88 #[.pointer none] w fun e w' => e = .returned (.bool false) ∧ w = w' := by
  go_enter Tryz.func88, Tryz.ntmps88
  go_wp2
  go_ret
  exact ⟨rfl, rfl⟩
/-- What no call made. -/
def NobZ (w : World) (v : Value) : Prop := v = .pointer none ∨ ∃ b, v = .pointer (some ⟨b, 0, none⟩) ∧ FzB w b 0 false 0 false 0 false 0 false 0
theorem fmade_nob {w : World} {v : Value} (h : NobZ w v) : Calls Tryz.prog 88 #[v] w fun e w' => e = .returned (.bool false) ∧ w = w' := by
  rcases h with rfl | ⟨b, rfl, h⟩
  · exact fmade_nil w
  · exact fmade_no h
set_option maxRecDepth 100000 in
set_option maxHeartbeats 400000 in
theorem fdisarm_b {w : World} {b : Nat} {q h0 h1 h2 h3 : Int} {a0 a1 a2 a3 : Bool} (h : FzB w b q a0 h0 a1 h1 a2 h2 a3 h3) :
    Calls Tryz.prog 96 #[.pointer (some ⟨b, 0, none⟩)] w fun e w' => e = .returned (.tuple #[]) ∧ FzB w' b q false 0 false 0 false 0 false 0 ∧ Apart [b] w w' := by
  obtain ⟨c0, c1, c2, c3, c4, c5, c6, c7, c8⟩ := h.cells
  obtain ⟨f0, f1, f2, f3, f4, f5, f6, f7, f8⟩ := h.marks
  have H := Lib.hid h; clear h
  go_enter Tryz.func96, Tryz.ntmps96
  go_wp2
  go_end0
  have h := H.out
  refine ⟨rfl, (((((((h.set1 false).set2 0).set3 false).set4 0).set5 false).set6 0).set7 false).set8 0, ?_⟩
  iterate 8 refine FzB.apart _ ?_ rfl
  exact Apart.refl _ _
set_option maxRecDepth 100000 in
set_option maxHeartbeats 400000 in
theorem fstrikes_b {w : World} {b o : Nat} {a : Bool} {h : Int} (hh : 0 ≤ h ∧ h ≤ 9223372036854775807) (c0 : w.cell? ⟨b, o, none⟩ = some (.bool a)) (c1 : w.cell? ⟨b, o + 1, none⟩ = some (.int .i64 h)) (f0 : w.frozen? ⟨b, o, none⟩ = false) (f1 : w.frozen? ⟨b, o + 1, none⟩ = false) :
    Calls Tryz.prog 157 #[.pointer (some ⟨b, o, none⟩)] w fun e w' => e = .returned (.bool (struck a h).1) ∧
      (w' = (w.setCell ⟨b, o, none⟩ (.bool (struck a h).2.1)).setCell ⟨b, o + 1, none⟩ (.int .i64 (struck a h).2.2) ∨ (w' = w.setCell ⟨b, o + 1, none⟩ (.int .i64 (struck a h).2.2) ∧ (struck a h).2.1 = a) ∨ (w' = w ∧ (struck a h).2 = (a, h))) := by
  obtain ⟨hh0, hh1⟩ := hh
  cases a with
  | false =>
    have e : struck false h = (false, false, h) := rfl
    rw [e]; clear e
    go_enter Tryz.func157, Tryz.ntmps157
    go_wp2
    go_ret
    exact ⟨rfl, .inr (.inr ⟨rfl, trivial⟩)⟩
  | true =>
    by_cases hz : h = 0
    · subst hz
      have e : struck true 0 = (true, false, 0) := rfl
      rw [e]; clear e
      go_enter Tryz.func157, Tryz.ntmps157
      go_wp2
      go_ret
      exact ⟨rfl, .inl rfl⟩
    · have e : struck true h = (false, true, h - 1) := by unfold struck; rw [if_pos rfl, if_neg hz]
      rw [e]; clear e
      have hp : 0 < h := by omega
      clear hz
      have W : IntKind.i64.wrap (h - 1) = h - 1 := by simp [IntKind.wrap_i64]; omega
      go_enter Tryz.func157, Tryz.ntmps157
      go_wp2
      go_ret
      exact ⟨rfl, .inr (.inl ⟨rfl, trivial⟩)⟩
theorem fstrikes1 {w : World} {b : Nat} {q h0 h1 h2 h3 : Int} {a0 a1 a2 a3 : Bool} (h : FzB w b q a0 h0 a1 h1 a2 h2 a3 h3) (hh : 0 ≤ h1 ∧ h1 ≤ 9223372036854775807) :
    Calls Tryz.prog 157 #[.pointer (some ⟨b, 3, none⟩)] w fun e w' => e = .returned (.bool (struck a1 h1).1) ∧ FzB w' b q a0 h0 (struck a1 h1).2.1 (struck a1 h1).2.2 a2 h2 a3 h3 ∧ Apart [b] w w' := by
  refine (fstrikes_b hh (h.cell 3 _ rfl) (h.cell 4 _ rfl) (h.free 3) (h.free 4)).mono ?_
  rintro e w' ⟨rfl, rfl | ⟨rfl, e1⟩ | ⟨rfl, e1⟩⟩
  · exact ⟨rfl, (h.set3 _).set4 _, ((Apart.refl [b] w).setCell (.inl (by simp)) _).setCell (.inl (by simp)) _⟩
  · rw [e1]
    exact ⟨rfl, h.set4 _, (Apart.refl [b] w).setCell (.inl (by simp)) _⟩
  · rw [e1]
    exact ⟨rfl, h, Apart.refl _ _⟩
theorem fstrikes2 {w : World} {b : Nat} {q h0 h1 h2 h3 : Int} {a0 a1 a2 a3 : Bool} (h : FzB w b q a0 h0 a1 h1 a2 h2 a3 h3) (hh : 0 ≤ h2 ∧ h2 ≤ 9223372036854775807) :
    Calls Tryz.prog 157 #[.pointer (some ⟨b, 5, none⟩)] w fun e w' => e = .returned (.bool (struck a2 h2).1) ∧ FzB w' b q a0 h0 a1 h1 (struck a2 h2).2.1 (struck a2 h2).2.2 a3 h3 ∧ Apart [b] w w' := by
  refine (fstrikes_b hh (h.cell 5 _ rfl) (h.cell 6 _ rfl) (h.free 5) (h.free 6)).mono ?_
  rintro e w' ⟨rfl, rfl | ⟨rfl, e1⟩ | ⟨rfl, e1⟩⟩
  · exact ⟨rfl, (h.set5 _).set6 _, ((Apart.refl [b] w).setCell (.inl (by simp)) _).setCell (.inl (by simp)) _⟩
  · rw [e1]
    exact ⟨rfl, h.set6 _, (Apart.refl [b] w).setCell (.inl (by simp)) _⟩
  · rw [e1]
    exact ⟨rfl, h, Apart.refl _ _⟩
theorem fstrikes3 {w : World} {b : Nat} {q h0 h1 h2 h3 : Int} {a0 a1 a2 a3 : Bool} (h : FzB w b q a0 h0 a1 h1 a2 h2 a3 h3) (hh : 0 ≤ h3 ∧ h3 ≤ 9223372036854775807) :
    Calls Tryz.prog 157 #[.pointer (some ⟨b, 7, none⟩)] w fun e w' => e = .returned (.bool (struck a3 h3).1) ∧ FzB w' b q a0 h0 a1 h1 a2 h2 (struck a3 h3).2.1 (struck a3 h3).2.2 ∧ Apart [b] w w' := by
  refine (fstrikes_b hh (h.cell 7 _ rfl) (h.cell 8 _ rfl) (h.free 7) (h.free 8)).mono ?_
  rintro e w' ⟨rfl, rfl | ⟨rfl, e1⟩ | ⟨rfl, e1⟩⟩
  · exact ⟨rfl, (h.set7 _).set8 _, ((Apart.refl [b] w).setCell (.inl (by simp)) _).setCell (.inl (by simp)) _⟩
  · rw [e1]
    exact ⟨rfl, h.set8 _, (Apart.refl [b] w).setCell (.inl (by simp)) _⟩
  · rw [e1]
    exact ⟨rfl, h, Apart.refl _ _⟩
theorem struck_ok (a : Bool) (h : Int) (hh : 0 ≤ h ∧ h ≤ 9223372036854775807) : 0 ≤ (struck a h).2.2 ∧ (struck a h).2.2 ≤ 9223372036854775807 := by
  unfold struck
  split
  · split
    · simp
    · simp; omega
  · exact hh
theorem struck_yes (a : Bool) (h : Int) (hs : (struck a h).1 = true) : flt a h = 0 ∧ flt (struck a h).2.1 (struck a h).2.2 = -1 := by
  unfold struck at *
  cases a with
  | false => simp at hs
  | true =>
    by_cases hz : h = 0
    · simp [flt, hz]
    · simp [hz] at hs
theorem struck_no (a : Bool) (h : Int) (hh : 0 ≤ h ∧ h ≤ 9223372036854775807) (hs : (struck a h).1 = false) : ¬ flt a h = 0 ∧ flt (struck a h).2.1 (struck a h).2.2 = low1 (flt a h) := by
  unfold struck at *
  cases a with
  | false => simp [flt, low1]; rfl
  | true =>
    by_cases hz : h = 0
    · simp [hz] at hs
    · simp [flt, low1, hz]; omega

set_option maxRecDepth 100000 in
set_option maxHeartbeats 400000 in
theorem fcome1_off {w : World} {b : Nat} {h0 h1 h2 h3 : Int} {a0 a1 a2 a3 : Bool} (h : FzB w b 2 a0 h0 a1 h1 a2 h2 a3 h3) :
    Calls Tryz.prog 129 #[.pointer (some ⟨b, 0, none⟩), .int .i64 1] w fun e w' => e = .returned (.int .i64 14) ∧ w = w' := by
  obtain ⟨c0, _⟩ := h.cells
  have C := Lib.hid (fmade_yes h (by decide)); clear h
  go_enter Tryz.func129, Tryz.ntmps129
  go_wp2_with (go_at_call 88; refine C.out.mono ?_; rintro e w' ⟨rfl, rfl⟩)
  go_ret
  exact ⟨rfl, rfl⟩
set_option maxRecDepth 100000 in
set_option maxHeartbeats 400000 in
theorem fcome1_down {w : World} {b : Nat} {h0 h1 h2 h3 : Int} {a0 a1 a2 a3 : Bool} (h : FzB w b 1 a0 h0 a1 h1 a2 h2 a3 h3) (h3k : 0 ≤ h3 ∧ h3 ≤ 9223372036854775807) (hs : (struck a3 h3).1 = true) :
    Calls Tryz.prog 129 #[.pointer (some ⟨b, 0, none⟩), .int .i64 1] w fun e w' => e = .returned (.int .i64 14) ∧ FzB w' b 2 a0 h0 a1 h1 a2 h2 (struck a3 h3).2.1 (struck a3 h3).2.2 ∧ Apart [b] w w' := by
  obtain ⟨c0, _⟩ := h.cells
  have cd := fstrikes3 h h3k
  rw [hs] at cd
  generalize (struck a3 h3).2.1 = a3', (struck a3 h3).2.2 = h3' at *
  have C := Lib.hid (fmade_yes h (by decide)); have D := Lib.hid cd; clear h cd hs h3k
  go_enter Tryz.func129, Tryz.ntmps129
  go_wp2_with (first | (go_at_call 88; refine C.out.mono ?_; rintro e w' ⟨rfl, rfl⟩) | (go_at_call 157; refine D.out.mono ?_; rintro e w2 ⟨rfl, hz, ha⟩; have hc := hz.cell 0 _ rfl; have hf := hz.free 0; have Z := Lib.hid hz; clear hz))
  go_ret
  exact ⟨rfl, Z.out.set0 2, ha.setCell (.inl (by simp)) _⟩
set_option maxRecDepth 100000 in
set_option maxHeartbeats 400000 in
theorem fcome1_on {w : World} {b : Nat} {h0 h1 h2 h3 : Int} {a0 a1 a2 a3 : Bool} (h : FzB w b 1 a0 h0 a1 h1 a2 h2 a3 h3) (hk : 0 ≤ h1 ∧ h1 ≤ 9223372036854775807) (h3k : 0 ≤ h3 ∧ h3 ≤ 9223372036854775807) (hs : (struck a3 h3).1 = false) :
    Calls Tryz.prog 129 #[.pointer (some ⟨b, 0, none⟩), .int .i64 1] w fun e w' => e = .returned (.int .i64 (if (struck a1 h1).1 = true then 13 else 0)) ∧
      FzB w' b 1 a0 h0 (struck a1 h1).2.1 (struck a1 h1).2.2 a2 h2 (struck a3 h3).2.1 (struck a3 h3).2.2 ∧ Apart [b] w w' := by
  obtain ⟨c0, _⟩ := h.cells
  have cd := fstrikes3 h h3k
  rw [hs] at cd
  generalize (struck a3 h3).2.1 = a3', (struck a3 h3).2.2 = h3' at *
  have ck := fun (w : World) (h : FzB w b 1 a0 h0 a1 h1 a2 h2 a3' h3') => fstrikes1 h hk
  generalize struck a1 h1 = r at *
  obtain ⟨r, r1, r2⟩ := r
  have C := Lib.hid (fmade_yes h (by decide)); have D := Lib.hid cd; have K := Lib.hid ck; clear h cd ck hs h3k hk
  cases r <;>
  · go_enter Tryz.func129, Tryz.ntmps129
    go_wp2_with (first | (go_at_call 88; refine C.out.mono ?_; rintro e w' ⟨rfl, rfl⟩) | (go_at_call 157; refine D.out.mono ?_; rintro e w2 ⟨rfl, hz, ha⟩; have Z := Lib.hid hz; clear hz D) | (go_at_call 157; refine (K.out _ Z.out).mono ?_; rintro e w3 ⟨rfl, hz3, ha3⟩))
    go_ret
    exact ⟨rfl, hz3, ha.trans ha3 (fun x hx => .inl hx)⟩
set_option maxRecDepth 100000 in
set_option maxHeartbeats 400000 in
theorem fcome2_off {w : World} {b : Nat} {h0 h1 h2 h3 : Int} {a0 a1 a2 a3 : Bool} (h : FzB w b 2 a0 h0 a1 h1 a2 h2 a3 h3) :
    Calls Tryz.prog 129 #[.pointer (some ⟨b, 0, none⟩), .int .i64 2] w fun e w' => e = .returned (.int .i64 14) ∧ w = w' := by
  obtain ⟨c0, _⟩ := h.cells
  have C := Lib.hid (fmade_yes h (by decide)); clear h
  go_enter Tryz.func129, Tryz.ntmps129
  go_wp2_with (go_at_call 88; refine C.out.mono ?_; rintro e w' ⟨rfl, rfl⟩)
  go_ret
  exact ⟨rfl, rfl⟩
set_option maxRecDepth 100000 in
set_option maxHeartbeats 400000 in
theorem fcome2_down {w : World} {b : Nat} {h0 h1 h2 h3 : Int} {a0 a1 a2 a3 : Bool} (h : FzB w b 1 a0 h0 a1 h1 a2 h2 a3 h3) (h3k : 0 ≤ h3 ∧ h3 ≤ 9223372036854775807) (hs : (struck a3 h3).1 = true) :
    Calls Tryz.prog 129 #[.pointer (some ⟨b, 0, none⟩), .int .i64 2] w fun e w' => e = .returned (.int .i64 14) ∧ FzB w' b 2 a0 h0 a1 h1 a2 h2 (struck a3 h3).2.1 (struck a3 h3).2.2 ∧ Apart [b] w w' := by
  obtain ⟨c0, _⟩ := h.cells
  have cd := fstrikes3 h h3k
  rw [hs] at cd
  generalize (struck a3 h3).2.1 = a3', (struck a3 h3).2.2 = h3' at *
  have C := Lib.hid (fmade_yes h (by decide)); have D := Lib.hid cd; clear h cd hs h3k
  go_enter Tryz.func129, Tryz.ntmps129
  go_wp2_with (first | (go_at_call 88; refine C.out.mono ?_; rintro e w' ⟨rfl, rfl⟩) | (go_at_call 157; refine D.out.mono ?_; rintro e w2 ⟨rfl, hz, ha⟩; have hc := hz.cell 0 _ rfl; have hf := hz.free 0; have Z := Lib.hid hz; clear hz))
  go_ret
  exact ⟨rfl, Z.out.set0 2, ha.setCell (.inl (by simp)) _⟩
set_option maxRecDepth 100000 in
set_option maxHeartbeats 400000 in
theorem fcome2_on {w : World} {b : Nat} {h0 h1 h2 h3 : Int} {a0 a1 a2 a3 : Bool} (h : FzB w b 1 a0 h0 a1 h1 a2 h2 a3 h3) (hk : 0 ≤ h2 ∧ h2 ≤ 9223372036854775807) (h3k : 0 ≤ h3 ∧ h3 ≤ 9223372036854775807) (hs : (struck a3 h3).1 = false) :
    Calls Tryz.prog 129 #[.pointer (some ⟨b, 0, none⟩), .int .i64 2] w fun e w' => e = .returned (.int .i64 (if (struck a2 h2).1 = true then 13 else 0)) ∧
      FzB w' b 1 a0 h0 a1 h1 (struck a2 h2).2.1 (struck a2 h2).2.2 (struck a3 h3).2.1 (struck a3 h3).2.2 ∧ Apart [b] w w' := by
  obtain ⟨c0, _⟩ := h.cells
  have cd := fstrikes3 h h3k
  rw [hs] at cd
  generalize (struck a3 h3).2.1 = a3', (struck a3 h3).2.2 = h3' at *
  have ck := fun (w : World) (h : FzB w b 1 a0 h0 a1 h1 a2 h2 a3' h3') => fstrikes2 h hk
  generalize struck a2 h2 = r at *
  obtain ⟨r, r1, r2⟩ := r
  have C := Lib.hid (fmade_yes h (by decide)); have D := Lib.hid cd; have K := Lib.hid ck; clear h cd ck hs h3k hk
  cases r <;>
  · go_enter Tryz.func129, Tryz.ntmps129
    go_wp2_with (first | (go_at_call 88; refine C.out.mono ?_; rintro e w' ⟨rfl, rfl⟩) | (go_at_call 157; refine D.out.mono ?_; rintro e w2 ⟨rfl, hz, ha⟩; have Z := Lib.hid hz; clear hz D) | (go_at_call 157; refine (K.out _ Z.out).mono ?_; rintro e w3 ⟨rfl, hz3, ha3⟩))
    go_ret
    exact ⟨rfl, hz3, ha.trans ha3 (fun x hx => .inl hx)⟩
set_option maxRecDepth 100000 in
set_option maxHeartbeats 400000 in
theorem fput_of {w : World} {v : Value} {x : Int} {P : World → Prop} (c : Calls Tryz.prog 129 #[v, .int .i64 1] w fun e w' => e = .returned (.int .i64 x) ∧ P w') :
    Calls Tryz.prog 92 #[v] w fun e w' => e = .returned (.int .i64 x) ∧ P w' := by
  have C := Lib.hid c; clear c
  go_enter Tryz.func92, Tryz.ntmps92
  go_wp2_with (go_at_call 129; refine C.out.mono ?_; rintro e w' ⟨rfl, hp⟩)
  go_ret
  exact ⟨rfl, hp⟩
theorem fput_any {w : World} {S : List Nat} {a : Addr} {f : Fus} (h : IsFuse w S a f) (hf : f.ok) :
    Calls Tryz.prog 92 #[.pointer (some a)] w (UpdF w S a (f.call false).1 (.int .i64 (f.call false).2)) := by
  obtain ⟨p, s, d, off⟩ := f
  obtain ⟨b, h0, h1, h2, h3, a0, a1, a2, a3, rfl, rfl, hb, e1, e2, e3, h1b, h2b, h3b⟩ := h.out
  dsimp only at e1 e2 e3 hb
  subst e1 e2 e3
  clear hf
  have W := fun (x : Int) (P : World → Prop) (c : Calls Tryz.prog 129 #[.pointer (some ⟨b, 0, none⟩), .int .i64 1] w fun e w' => e = .returned (.int .i64 x) ∧ P w') => fput_of c
  cases off with
  | true =>
    refine (W _ _ (fcome1_off hb)).mono ?_
    rintro e w' ⟨rfl, rfl⟩
    have ev : Fus.call ⟨flt a1 h1, flt a2 h2, flt a3 h3, true⟩ false = (⟨flt a1 h1, flt a2 h2, flt a3 h3, true⟩, 14) := by unfold Fus.call; rw [if_pos rfl]
    rw [ev]
    exact ⟨rfl, [b], ⟨⟨b, h0, h1, h2, h3, a0, a1, a2, a3, rfl, rfl, hb, rfl, rfl, rfl, h1b, h2b, h3b⟩⟩, Apart.refl _ _, fun x hx => .inl hx⟩
  | false =>
    by_cases hs : (struck a3 h3).1 = true
    · refine (W _ _ (fcome1_down hb h3b hs)).mono ?_
      rintro e w' ⟨rfl, hz, ha⟩
      obtain ⟨e0, e1⟩ := struck_yes a3 h3 hs
      have ev : Fus.call ⟨flt a1 h1, flt a2 h2, flt a3 h3, false⟩ false = (⟨flt a1 h1, flt a2 h2, -1, true⟩, 14) := by unfold Fus.call; rw [if_neg (by simp), if_pos e0]
      rw [ev]
      exact ⟨rfl, [b], ⟨⟨b, h0, h1, h2, _, a0, a1, a2, _, rfl, rfl, hz, rfl, rfl, e1.symm, h1b, h2b, struck_ok _ _ h3b⟩⟩, ha, fun x hx => .inl hx⟩
    · have hs' : (struck a3 h3).1 = false := by simpa using hs
      refine (W _ _ (fcome1_on hb h1b h3b hs')).mono ?_
      rintro e w' ⟨rfl, hz, ha⟩
      obtain ⟨e0, e1⟩ := struck_no a3 h3 h3b hs'
      by_cases hk : (struck a1 h1).1 = true
      · obtain ⟨g0, g1⟩ := struck_yes a1 h1 hk
        have ev : Fus.call ⟨flt a1 h1, flt a2 h2, flt a3 h3, false⟩ false = (⟨-1, flt a2 h2, low1 (flt a3 h3), false⟩, 13) := by unfold Fus.call; rw [if_neg (by simp), if_neg e0, if_neg (by simp), if_pos g0]
        rw [ev, hk]
        exact ⟨rfl, [b], ⟨⟨b, h0, _, _, _, a0, _, _, _, rfl, rfl, hz, g1.symm, rfl, e1.symm, struck_ok _ _ h1b, h2b, struck_ok _ _ h3b⟩⟩, ha, fun x hx => .inl hx⟩
      · have hk' : (struck a1 h1).1 = false := by simpa using hk
        obtain ⟨g0, g1⟩ := struck_no a1 h1 h1b hk'
        have ev : Fus.call ⟨flt a1 h1, flt a2 h2, flt a3 h3, false⟩ false = (⟨low1 (flt a1 h1), flt a2 h2, low1 (flt a3 h3), false⟩, 0) := by unfold Fus.call; rw [if_neg (by simp), if_neg e0, if_neg (by simp), if_neg g0]
        rw [ev, hk']
        exact ⟨rfl, [b], ⟨⟨b, h0, _, _, _, a0, _, _, _, rfl, rfl, hz, g1.symm, rfl, e1.symm, struck_ok _ _ h1b, h2b, struck_ok _ _ h3b⟩⟩, ha, fun x hx => .inl hx⟩
set_option maxRecDepth 100000 in
set_option maxHeartbeats 400000 in
theorem fsync_of {w : World} {v : Value} {x : Int} {P : World → Prop} (c : Calls Tryz.prog 129 #[v, .int .i64 2] w fun e w' => e = .returned (.int .i64 x) ∧ P w') :
    Calls Tryz.prog 71 #[v] w fun e w' => e = .returned (.int .i64 x) ∧ P w' := by
  have C := Lib.hid c; clear c
  go_enter Tryz.func71, Tryz.ntmps71
  go_wp2_with (go_at_call 129; refine C.out.mono ?_; rintro e w' ⟨rfl, hp⟩)
  go_ret
  exact ⟨rfl, hp⟩
theorem fsync_any {w : World} {S : List Nat} {a : Addr} {f : Fus} (h : IsFuse w S a f) (hf : f.ok) :
    Calls Tryz.prog 71 #[.pointer (some a)] w (UpdF w S a (f.call true).1 (.int .i64 (f.call true).2)) := by
  obtain ⟨p, s, d, off⟩ := f
  obtain ⟨b, h0, h1, h2, h3, a0, a1, a2, a3, rfl, rfl, hb, e1, e2, e3, h1b, h2b, h3b⟩ := h.out
  dsimp only at e1 e2 e3 hb
  subst e1 e2 e3
  clear hf
  have W := fun (x : Int) (P : World → Prop) (c : Calls Tryz.prog 129 #[.pointer (some ⟨b, 0, none⟩), .int .i64 2] w fun e w' => e = .returned (.int .i64 x) ∧ P w') => fsync_of c
  cases off with
  | true =>
    refine (W _ _ (fcome2_off hb)).mono ?_
    rintro e w' ⟨rfl, rfl⟩
    have ev : Fus.call ⟨flt a1 h1, flt a2 h2, flt a3 h3, true⟩ true = (⟨flt a1 h1, flt a2 h2, flt a3 h3, true⟩, 14) := by unfold Fus.call; rw [if_pos rfl]
    rw [ev]
    exact ⟨rfl, [b], ⟨⟨b, h0, h1, h2, h3, a0, a1, a2, a3, rfl, rfl, hb, rfl, rfl, rfl, h1b, h2b, h3b⟩⟩, Apart.refl _ _, fun x hx => .inl hx⟩
  | false =>
    by_cases hs : (struck a3 h3).1 = true
    · refine (W _ _ (fcome2_down hb h3b hs)).mono ?_
      rintro e w' ⟨rfl, hz, ha⟩
      obtain ⟨e0, e1⟩ := struck_yes a3 h3 hs
      have ev : Fus.call ⟨flt a1 h1, flt a2 h2, flt a3 h3, false⟩ true = (⟨flt a1 h1, flt a2 h2, -1, true⟩, 14) := by unfold Fus.call; rw [if_neg (by simp), if_pos e0]
      rw [ev]
      exact ⟨rfl, [b], ⟨⟨b, h0, h1, h2, _, a0, a1, a2, _, rfl, rfl, hz, rfl, rfl, e1.symm, h1b, h2b, struck_ok _ _ h3b⟩⟩, ha, fun x hx => .inl hx⟩
    · have hs' : (struck a3 h3).1 = false := by simpa using hs
      refine (W _ _ (fcome2_on hb h2b h3b hs')).mono ?_
      rintro e w' ⟨rfl, hz, ha⟩
      obtain ⟨e0, e1⟩ := struck_no a3 h3 h3b hs'
      by_cases hk : (struck a2 h2).1 = true
      · obtain ⟨g0, g1⟩ := struck_yes a2 h2 hk
        have ev : Fus.call ⟨flt a1 h1, flt a2 h2, flt a3 h3, false⟩ true = (⟨flt a1 h1, -1, low1 (flt a3 h3), false⟩, 13) := by unfold Fus.call; rw [if_neg (by simp), if_neg e0, if_pos rfl, if_pos g0]
        rw [ev, hk]
        exact ⟨rfl, [b], ⟨⟨b, h0, _, _, _, a0, _, _, _, rfl, rfl, hz, rfl, g1.symm, e1.symm, h1b, struck_ok _ _ h2b, struck_ok _ _ h3b⟩⟩, ha, fun x hx => .inl hx⟩
      · have hk' : (struck a2 h2).1 = false := by simpa using hk
        obtain ⟨g0, g1⟩ := struck_no a2 h2 h2b hk'
        have ev : Fus.call ⟨flt a1 h1, flt a2 h2, flt a3 h3, false⟩ true = (⟨flt a1 h1, low1 (flt a2 h2), low1 (flt a3 h3), false⟩, 0) := by unfold Fus.call; rw [if_neg (by simp), if_neg e0, if_pos rfl, if_neg g0]
        rw [ev, hk']
        exact ⟨rfl, [b], ⟨⟨b, h0, _, _, _, a0, _, _, _, rfl, rfl, hz, rfl, g1.symm, e1.symm, h1b, struck_ok _ _ h2b, struck_ok _ _ h3b⟩⟩, ha, fun x hx => .inl hx⟩

set_option maxRecDepth 100000 in
set_option maxHeartbeats 400000 in
theorem fnew_any (w : World) : Calls Tryz.prog 64 #[] w (NewF w Fus.new) := by
  go_enter Tryz.func64, Tryz.ntmps64
  go_wp2
  go_ret
  refine ⟨⟨w.heap.size, 0, none⟩, [w.heap.size], rfl, ⟨⟨w.heap.size, 0, 0, 0, 0, false, false, false, false, rfl, rfl, ?_, rfl, rfl, rfl, by simp, by simp, by simp⟩⟩, by simp, ?_⟩
  · exact Blk.new w _ _
  · exact (Below.refl _ _).alloc (Nat.le_refl _) _
set_option maxRecDepth 100000 in
set_option maxHeartbeats 400000 in
theorem fup_b {w : World} {b : Nat} {off : Bool} {h0 h1 h2 h3 : Int} {a0 a1 a2 a3 : Bool} (h : FzB w b (if off = true then 2 else 1) a0 h0 a1 h1 a2 h2 a3 h3) :
    Calls Tryz.prog 84 #[.pointer (some ⟨b, 0, none⟩)] w fun e w' => e = .returned (.bool (!off)) ∧ w = w' := by
  obtain ⟨c0, _⟩ := h.cells
  have C := Lib.hid (fmade_yes h (by cases off <;> decide)); clear h
  cases off <;> simp only [Bool.false_eq_true, if_true, if_false] at c0 <;>
  · go_enter Tryz.func84, Tryz.ntmps84
    go_wp2_with (go_at_call 88; refine C.out.mono ?_; rintro e w' ⟨rfl, rfl⟩)
    go_ret
    exact ⟨rfl, rfl⟩
theorem fup_any {w : World} {S : List Nat} {a : Addr} {f : Fus} (h : IsFuse w S a f) :
    Calls Tryz.prog 84 #[.pointer (some a)] w fun e w' => e = .returned (.bool (!f.off)) ∧ Below w.heap.size w w' := by
  obtain ⟨b, h0, h1, h2, h3, a0, a1, a2, a3, rfl, rfl, hb, _⟩ := h.out
  refine (fup_b hb).mono ?_
  rintro e w' ⟨rfl, rfl⟩
  exact ⟨rfl, Below.refl _ _⟩
set_option maxRecDepth 100000 in
set_option maxHeartbeats 400000 in
theorem freset_b {w : World} {b : Nat} {q : Int} (hq : q ≠ 0) {h0 h1 h2 h3 : Int} {a0 a1 a2 a3 : Bool} (h : FzB w b q a0 h0 a1 h1 a2 h2 a3 h3) :
    Calls Tryz.prog 47 #[.pointer (some ⟨b, 0, none⟩)] w fun e w' => e = .returned (.tuple #[]) ∧ FzB w' b 1 false 0 false 0 false 0 false 0 ∧ Apart [b] w w' := by
  obtain ⟨c0, _⟩ := h.cells
  have f0 := h.free 0
  have C := Lib.hid (fmade_yes h hq); have D := Lib.hid (fdisarm_b (h.set0 1)); clear h hq
  go_enter Tryz.func47, Tryz.ntmps47
  go_wp2_with (first | (go_at_call 88; refine C.out.mono ?_; rintro e w' ⟨rfl, rfl⟩) | (go_at_call 96; refine D.out.mono ?_; rintro e w' ⟨rfl, hz, ha⟩))
  go_end0
  exact ⟨rfl, hz, ((Apart.refl [b] w).setCell (.inl (by simp)) _).trans ha (fun x hx => .inl hx)⟩
theorem freset_any {w : World} {S : List Nat} {a : Addr} {f : Fus} (h : IsFuse w S a f) :
    Calls Tryz.prog 47 #[.pointer (some a)] w (UpdF w S a Fus.new (.tuple #[])) := by
  obtain ⟨b, h0, h1, h2, h3, a0, a1, a2, a3, rfl, rfl, hb, _⟩ := h.out
  refine (freset_b (by split <;> decide) hb).mono ?_
  rintro e w' ⟨rfl, hz, ha⟩
  exact ⟨rfl, [b], ⟨⟨b, 0, 0, 0, 0, false, false, false, false, rfl, rfl, hz, rfl, rfl, rfl, by simp, by simp, by simp⟩⟩, ha, fun x hx => .inl hx⟩
set_option maxRecDepth 100000 in
set_option maxHeartbeats 800000 in
theorem fcopy_b {w : World} {b : Nat} {q : Int} (hq : q ≠ 0) {h0 h1 h2 h3 : Int} {a0 a1 a2 a3 : Bool} (h : FzB w b q a0 h0 a1 h1 a2 h2 a3 h3) :
    Calls Tryz.prog 35 #[.pointer (some ⟨b, 0, none⟩)] w fun e w' => e = .returned (.pointer (some ⟨w.heap.size, 0, none⟩)) ∧ FzB w' w.heap.size q a0 h0 a1 h1 a2 h2 a3 h3 ∧ Below w.heap.size w w' := by
  obtain ⟨c0, c1, c2, c3, c4, c5, c6, c7, c8⟩ := h.cells
  have C := Lib.hid (fmade_yes h hq); have H := Lib.hid h; clear h hq
  go_enter Tryz.func35, Tryz.ntmps35
  go_wp2_with (go_at_call 88; refine C.out.mono ?_; rintro e w' ⟨rfl, rfl⟩)
  go_ret
  exact ⟨rfl, Blk.new w _ _, (Below.refl _ _).alloc (Nat.le_refl _) _⟩
theorem fcopy_any {w : World} {S : List Nat} {a : Addr} {f : Fus} (h : IsFuse w S a f) :
    Calls Tryz.prog 35 #[.pointer (some a)] w (NewF w f) := by
  obtain ⟨b, h0, h1, h2, h3, a0, a1, a2, a3, rfl, rfl, hb, r⟩ := h.out
  refine (fcopy_b (by split <;> decide) hb).mono ?_
  rintro e w' ⟨rfl, hz, ha⟩
  exact ⟨⟨w.heap.size, 0, none⟩, [w.heap.size], rfl, ⟨⟨w.heap.size, h0, h1, h2, h3, a0, a1, a2, a3, rfl, rfl, hz, r⟩⟩, by simp, ha⟩
set_option maxRecDepth 100000 in
set_option maxHeartbeats 800000 in
theorem farm0_b {w : World} {b : Nat} {q : Int} (hq : q ≠ 0) {h0 h1 h2 h3 : Int} {a0 a1 a2 a3 : Bool} (h : FzB w b q a0 h0 a1 h1 a2 h2 a3 h3) (n : Int) (hn0 : 0 ≤ n) (hn : n ≤ 9223372036854775807) :
    Calls Tryz.prog 83 #[.pointer (some ⟨b, 0, none⟩), .agg #[.int .i64 0, .int .i64 n]] w fun e w' => e = .returned (.bool true) ∧ FzB w' b q false 0 false 0 false 0 false 0 ∧ Apart [b] w w' := by
  have C := Lib.hid (fmade_yes (Blk.alloc h (.cells #[.int .i64 0, .int .i64 n] 38)) hq); have D := Lib.hid (fdisarm_b (Blk.alloc h (.cells #[.int .i64 0, .int .i64 n] 38))); have H := Lib.hid h; clear h hq
  go_enter Tryz.func83, Tryz.ntmps83
  go_wp2_with (first | (go_at_call 88; refine C.out.mono ?_; rintro e w' ⟨rfl, rfl⟩) | (go_at_call 96; refine D.out.mono ?_; rintro e w' ⟨rfl, hz, ha⟩))
  go_ret
  exact ⟨rfl, hz, ((Apart.refl [b] w).alloc _).trans ha (fun x hx => .inl hx)⟩
set_option maxRecDepth 100000 in
set_option maxHeartbeats 800000 in
theorem farm1_b {w : World} {b : Nat} {q : Int} (hq : q ≠ 0) {h0 h1 h2 h3 : Int} {a0 a1 a2 a3 : Bool} (h : FzB w b q a0 h0 a1 h1 a2 h2 a3 h3) (n : Int) (hn0 : 0 ≤ n) (hn : n ≤ 9223372036854775807) :
    Calls Tryz.prog 83 #[.pointer (some ⟨b, 0, none⟩), .agg #[.int .i64 1, .int .i64 n]] w fun e w' => e = .returned (.bool true) ∧ FzB w' b q a0 h0 true n a2 h2 a3 h3 ∧ Apart [b] w w' := by
  have C := Lib.hid (fmade_yes (Blk.alloc h (.cells #[.int .i64 1, .int .i64 n] 38)) hq); have h' := Blk.alloc h (.cells #[.int .i64 1, .int .i64 n] 38); have c1 := h'.cell 3 (.bool a1) rfl; have c2 := h'.cell 4 (.int .i64 h1) rfl; have f1 := h'.free 3; have f2 := h'.free 4; clear h'; have H := Lib.hid h; clear h hq
  go_enter Tryz.func83, Tryz.ntmps83
  go_wp2_with (first | (go_at_call 88; refine C.out.mono ?_; rintro e w' ⟨rfl, rfl⟩))
  go_region
  go_wp2
  go_ret
  exact ⟨rfl, FzB.set4 (FzB.set3 (Blk.alloc H.out _) true) n, ((((Apart.refl [b] w).alloc _).setCell (p := ⟨b, 3, none⟩) (.inl (by simp)) (.bool true)).setCell (p := ⟨b, 4, none⟩) (.inl (by simp)) (.int .i64 n)).drewN 1⟩
set_option maxRecDepth 100000 in
set_option maxHeartbeats 800000 in
theorem farm2_b {w : World} {b : Nat} {q : Int} (hq : q ≠ 0) {h0 h1 h2 h3 : Int} {a0 a1 a2 a3 : Bool} (h : FzB w b q a0 h0 a1 h1 a2 h2 a3 h3) (n : Int) (hn0 : 0 ≤ n) (hn : n ≤ 9223372036854775807) :
    Calls Tryz.prog 83 #[.pointer (some ⟨b, 0, none⟩), .agg #[.int .i64 2, .int .i64 n]] w fun e w' => e = .returned (.bool true) ∧ FzB w' b q a0 h0 a1 h1 true n a3 h3 ∧ Apart [b] w w' := by
  have C := Lib.hid (fmade_yes (Blk.alloc h (.cells #[.int .i64 2, .int .i64 n] 38)) hq); have h' := Blk.alloc h (.cells #[.int .i64 2, .int .i64 n] 38); have c1 := h'.cell 5 (.bool a2) rfl; have c2 := h'.cell 6 (.int .i64 h2) rfl; have f1 := h'.free 5; have f2 := h'.free 6; clear h'; have H := Lib.hid h; clear h hq
  go_enter Tryz.func83, Tryz.ntmps83
  go_wp2_with (first | (go_at_call 88; refine C.out.mono ?_; rintro e w' ⟨rfl, rfl⟩))
  go_region
  go_wp2
  go_ret
  exact ⟨rfl, FzB.set6 (FzB.set5 (Blk.alloc H.out _) true) n, ((((Apart.refl [b] w).alloc _).setCell (p := ⟨b, 5, none⟩) (.inl (by simp)) (.bool true)).setCell (p := ⟨b, 6, none⟩) (.inl (by simp)) (.int .i64 n)).drewN 1⟩
set_option maxRecDepth 100000 in
set_option maxHeartbeats 800000 in
theorem farm3_b {w : World} {b : Nat} {q : Int} (hq : q ≠ 0) {h0 h1 h2 h3 : Int} {a0 a1 a2 a3 : Bool} (h : FzB w b q a0 h0 a1 h1 a2 h2 a3 h3) (n : Int) (hn0 : 0 ≤ n) (hn : n ≤ 9223372036854775807) :
    Calls Tryz.prog 83 #[.pointer (some ⟨b, 0, none⟩), .agg #[.int .i64 3, .int .i64 n]] w fun e w' => e = .returned (.bool true) ∧ FzB w' b q a0 h0 a1 h1 a2 h2 true n ∧ Apart [b] w w' := by
  have C := Lib.hid (fmade_yes (Blk.alloc h (.cells #[.int .i64 3, .int .i64 n] 38)) hq); have h' := Blk.alloc h (.cells #[.int .i64 3, .int .i64 n] 38); have c1 := h'.cell 7 (.bool a3) rfl; have c2 := h'.cell 8 (.int .i64 h3) rfl; have f1 := h'.free 7; have f2 := h'.free 8; clear h'; have H := Lib.hid h; clear h hq
  go_enter Tryz.func83, Tryz.ntmps83
  go_wp2_with (first | (go_at_call 88; refine C.out.mono ?_; rintro e w' ⟨rfl, rfl⟩))
  go_region
  go_wp2
  go_ret
  exact ⟨rfl, FzB.set8 (FzB.set7 (Blk.alloc H.out _) true) n, ((((Apart.refl [b] w).alloc _).setCell (p := ⟨b, 7, none⟩) (.inl (by simp)) (.bool true)).setCell (p := ⟨b, 8, none⟩) (.inl (by simp)) (.int .i64 n)).drewN 1⟩
set_option maxRecDepth 100000 in
set_option maxHeartbeats 800000 in
theorem farm_bad {w : World} {b : Nat} {q : Int} (hq : q ≠ 0) {h0 h1 h2 h3 : Int} {a0 a1 a2 a3 : Bool} (h : FzB w b q a0 h0 a1 h1 a2 h2 a3 h3) (k n : Int) (hb : k < 0 ∨ 4 ≤ k ∨ n < 0) :
    Calls Tryz.prog 83 #[.pointer (some ⟨b, 0, none⟩), .agg #[.int .i64 k, .int .i64 n]] w fun e w' => e = .returned (.bool false) ∧ Below w.heap.size w w' := by
  have C := Lib.hid (fmade_yes (Blk.alloc h (.cells #[.int .i64 k, .int .i64 n] 38)) hq); clear h hq
  by_cases k0 : k < 0
  · clear hb
    go_enter Tryz.func83, Tryz.ntmps83
    go_wp2_with (go_at_call 88; refine C.out.mono ?_; rintro e w' ⟨rfl, rfl⟩)
    go_ret
    exact ⟨rfl, (Below.refl _ _).alloc (Nat.le_refl _) _⟩
  · by_cases k4 : 4 ≤ k
    · clear hb
      go_enter Tryz.func83, Tryz.ntmps83
      go_wp2_with (go_at_call 88; refine C.out.mono ?_; rintro e w' ⟨rfl, rfl⟩)
      go_ret
      exact ⟨rfl, (Below.refl _ _).alloc (Nat.le_refl _) _⟩
    · have n0 : n < 0 := by omega
      clear hb
      go_enter Tryz.func83, Tryz.ntmps83
      go_wp2_with (go_at_call 88; refine C.out.mono ?_; rintro e w' ⟨rfl, rfl⟩)
      go_ret
      exact ⟨rfl, (Below.refl _ _).alloc (Nat.le_refl _) _⟩
theorem farm_any {w : World} {S : List Nat} {a : Addr} {f : Fus} (h : IsFuse w S a f) (k n : Int) (hn : n ≤ 9223372036854775807) :
    Calls Tryz.prog 83 #[.pointer (some a), .agg #[.int .i64 k, .int .i64 n]] w (UpdF w S a (f.arm k n).1 (.bool (f.arm k n).2)) := by
  obtain ⟨p, s, d, off⟩ := f
  obtain ⟨b, h0, h1, h2, h3, a0, a1, a2, a3, rfl, rfl, hb, e1, e2, e3, h1b, h2b, h3b⟩ := h.out
  dsimp only at e1 e2 e3 hb
  have hq : (if off = true then (2 : Int) else 1) ≠ 0 := by split <;> decide
  unfold Fus.arm
  by_cases n0 : n < 0
  · rw [if_pos n0]
    refine (farm_bad hq hb k n (.inr (.inr n0))).mono ?_
    rintro e w' ⟨rfl, hw⟩
    exact ⟨rfl, [b], ⟨⟨b, h0, h1, h2, h3, a0, a1, a2, a3, rfl, rfl, hb.onto hw, e1, e2, e3, h1b, h2b, h3b⟩⟩, Apart.of_below hw, fun x hx => .inl hx⟩
  rw [if_neg n0]
  have n1 : 0 ≤ n := by omega
  by_cases k0 : k = 0
  · subst k0
    rw [if_pos rfl]
    refine (farm0_b hq hb n n1 hn).mono ?_
    rintro e w' ⟨rfl, hz, ha⟩
    exact ⟨rfl, [b], ⟨⟨b, 0, 0, 0, 0, false, false, false, false, rfl, rfl, hz, rfl, rfl, rfl, by simp, by simp, by simp⟩⟩, ha, fun x hx => .inl hx⟩
  rw [if_neg k0]
  by_cases k1 : k = 1
  · subst k1
    rw [if_pos rfl]
    refine (farm1_b hq hb n n1 hn).mono ?_
    rintro e w' ⟨rfl, hz, ha⟩
    exact ⟨rfl, [b], ⟨⟨b, h0, n, h2, h3, a0, true, a2, a3, rfl, rfl, hz, rfl, e2, e3, ⟨n1, hn⟩, h2b, h3b⟩⟩, ha, fun x hx => .inl hx⟩
  rw [if_neg k1]
  by_cases k2 : k = 2
  · subst k2
    rw [if_pos rfl]
    refine (farm2_b hq hb n n1 hn).mono ?_
    rintro e w' ⟨rfl, hz, ha⟩
    exact ⟨rfl, [b], ⟨⟨b, h0, h1, n, h3, a0, a1, true, a3, rfl, rfl, hz, e1, rfl, e3, h1b, ⟨n1, hn⟩, h3b⟩⟩, ha, fun x hx => .inl hx⟩
  rw [if_neg k2]
  by_cases k3 : k = 3
  · subst k3
    rw [if_pos rfl]
    refine (farm3_b hq hb n n1 hn).mono ?_
    rintro e w' ⟨rfl, hz, ha⟩
    exact ⟨rfl, [b], ⟨⟨b, h0, h1, h2, n, a0, a1, a2, true, rfl, rfl, hz, e1, e2, rfl, h1b, h2b, ⟨n1, hn⟩⟩⟩, ha, fun x hx => .inl hx⟩
  rw [if_neg k3]
  refine (farm_bad hq hb k n (by omega)).mono ?_
  rintro e w' ⟨rfl, hw⟩
  exact ⟨rfl, [b], ⟨⟨b, h0, h1, h2, h3, a0, a1, a2, a3, rfl, rfl, hb.onto hw, e1, e2, e3, h1b, h2b, h3b⟩⟩, Apart.of_below hw, fun x hx => .inl hx⟩
theorem NobZ.alloc {w : World} {v : Value} (h : NobZ w v) (o : Obj) : NobZ (w.alloc o) v := by
  rcases h with rfl | ⟨b, rfl, h⟩
  · exact .inl rfl
  · exact .inr ⟨b, rfl, Blk.alloc h o⟩
set_option maxRecDepth 100000 in
set_option maxHeartbeats 400000 in
theorem farm_nob {w : World} {v : Value} (h : NobZ w v) (k n : Int) :
    Calls Tryz.prog 83 #[v, .agg #[.int .i64 k, .int .i64 n]] w fun e w' => e = .returned (.bool false) ∧ Below w.heap.size w w' := by
  have C := Lib.hid (fmade_nob (h.alloc (.cells #[.int .i64 k, .int .i64 n] 38))); clear h
  go_enter Tryz.func83, Tryz.ntmps83
  go_wp2_with (go_at_call 88; refine C.out.mono ?_; rintro e w' ⟨rfl, rfl⟩)
  go_ret
  exact ⟨rfl, (Below.refl _ _).alloc (Nat.le_refl _) _⟩
set_option maxRecDepth 100000 in
set_option maxHeartbeats 400000 in
theorem fcome_nob {w : World} {v : Value} (h : NobZ w v) (k : Int) :
    Calls Tryz.prog 129 #[v, .int .i64 k] w fun e w' => e = .returned (.int .i64 1) ∧ w = w' := by
  have C := Lib.hid (fmade_nob h); clear h
  go_enter Tryz.func129, Tryz.ntmps129
  go_wp2_with (go_at_call 88; refine C.out.mono ?_; rintro e w' ⟨rfl, rfl⟩)
  go_ret
  exact ⟨rfl, rfl⟩
set_option maxRecDepth 100000 in
set_option maxHeartbeats 400000 in
theorem fput_nob {w : World} {v : Value} (h : NobZ w v) :
    Calls Tryz.prog 92 #[v] w fun e w' => e = .returned (.int .i64 1) ∧ Below w.heap.size w w' := by
  have C := Lib.hid (fcome_nob h 1); clear h
  go_enter Tryz.func92, Tryz.ntmps92
  go_wp2_with (go_at_call 129; refine C.out.mono ?_; rintro e w' ⟨rfl, rfl⟩)
  go_ret
  exact ⟨rfl, Below.refl _ _⟩
set_option maxRecDepth 100000 in
set_option maxHeartbeats 400000 in
theorem fsync_nob {w : World} {v : Value} (h : NobZ w v) :
    Calls Tryz.prog 71 #[v] w fun e w' => e = .returned (.int .i64 1) ∧ Below w.heap.size w w' := by
  have C := Lib.hid (fcome_nob h 2); clear h
  go_enter Tryz.func71, Tryz.ntmps71
  go_wp2_with (go_at_call 129; refine C.out.mono ?_; rintro e w' ⟨rfl, rfl⟩)
  go_ret
  exact ⟨rfl, Below.refl _ _⟩
set_option maxRecDepth 100000 in
set_option maxHeartbeats 400000 in
theorem fup_nob {w : World} {v : Value} (h : NobZ w v) :
    Calls Tryz.prog 84 #[v] w fun e w' => e = .returned (.bool false) ∧ Below w.heap.size w w' := by
  have C := Lib.hid (fmade_nob h); clear h
  go_enter Tryz.func84, Tryz.ntmps84
  go_wp2_with (go_at_call 88; refine C.out.mono ?_; rintro e w' ⟨rfl, rfl⟩)
  go_ret
  exact ⟨rfl, Below.refl _ _⟩
set_option maxRecDepth 100000 in
set_option maxHeartbeats 400000 in
theorem freset_nob {w : World} {v : Value} (h : NobZ w v) :
    Calls Tryz.prog 47 #[v] w fun e w' => e = .returned (.tuple #[]) ∧ Below w.heap.size w w' := by
  have C := Lib.hid (fmade_nob h); clear h
  go_enter Tryz.func47, Tryz.ntmps47
  go_wp2_with (go_at_call 88; refine C.out.mono ?_; rintro e w' ⟨rfl, rfl⟩)
  go_end0
  exact ⟨rfl, Below.refl _ _⟩
set_option maxRecDepth 100000 in
set_option maxHeartbeats 400000 in
theorem fcopy_nob {w : World} {v : Value} (h : NobZ w v) :
    Calls Tryz.prog 35 #[v] w fun e w' => e = .returned (.pointer none) ∧ Below w.heap.size w w' := by
  have C := Lib.hid (fmade_nob h); clear h
  go_enter Tryz.func35, Tryz.ntmps35
  go_wp2_with (go_at_call 88; refine C.out.mono ?_; rintro e w' ⟨rfl, rfl⟩)
  go_ret
  exact ⟨rfl, Below.refl _ _⟩
end Go.Proofs.YtfgecjlccngddaaGreat
