/-
  Joined: TapeDev.
-/
import Derived.Test.YtfgecjlccngddaaGreatRows
import Derived.Test.YtfgecjlccngddaaGreatJBase
import Derived.Test.YtfgecjlccngddaaGreatJPieceDev
import Derived.Deep.RegionHeld3
import Derived.Deep.RegionWith
import Derived.RegionTactic
import Derived.Laws.ByValue
namespace Go.Proofs.YtfgecjlccngddaaGreat
set_option linter.unusedSimpArgs false
set_option linter.unusedVariables false
open Go.RowKit
set_option linter.unusedVariables false

/-- A block that has both views, and whether a call made it. -/
def Tap3 (w : World) (b : Nat) (k n : ByteArray) (m : Bool) : Prop := w.heap[b]? = some (.cells #[.string n, .string k, .bool m] 166 (0, 0))
theorem Tap3.lt {w : World} {b : Nat} {k n : ByteArray} {m : Bool} (h : Tap3 w b k n m) : b < w.heap.size := lt_of_block h
theorem Tap3.cells {w : World} {b : Nat} {k n : ByteArray} {m : Bool} (h : Tap3 w b k n m) :
    w.cell? ⟨b, 0, none⟩ = some (.string n) ∧ w.cell? ⟨b, 1, none⟩ = some (.string k) ∧ w.cell? ⟨b, 2, none⟩ = some (.bool m) ∧
    w.frozen? ⟨b, 0, none⟩ = false ∧ w.frozen? ⟨b, 1, none⟩ = false ∧ w.frozen? ⟨b, 2, none⟩ = false := by
  unfold Tap3 at h
  refine ⟨?_, ?_, ?_, ?_, ?_, ?_⟩ <;> simp [World.cell?, World.frozen?, h]
theorem Tap3.keep {w w' : World} {b : Nat} {k n : ByteArray} {m : Bool} (h : Tap3 w b k n m) (hk : w'.heap[b]? = w.heap[b]?) : Tap3 w' b k n m := hk.trans h
theorem Tap3.drewN {w : World} {b : Nat} {k n : ByteArray} {m : Bool} (h : Tap3 w b k n m) (q : Nat) : Tap3 (w.drewN q) b k n m := h
theorem Tap3.new (w : World) (k n : ByteArray) (m : Bool) : Tap3 (w.alloc (.cells #[.string n, .string k, .bool m] 166)) w.heap.size k n m := by
  show (w.heap.push _)[w.heap.size]? = _
  simp
theorem Tap3.show {w : World} {b : Nat} {k n : ByteArray} {m : Bool} (h : Tap3 w b k n m) (s : ByteArray) : Tap3 (w.setCell ⟨b, 0, none⟩ (.string s)) b k s m := by
  unfold Tap3 at *
  simp [World.setCell, Array.getElem?_modify, h]
theorem Tap3.hold {w : World} {b : Nat} {k n : ByteArray} {m : Bool} (h : Tap3 w b k n m) (s : ByteArray) : Tap3 (w.setCell ⟨b, 1, none⟩ (.string s)) b s n m := by
  unfold Tap3 at *
  simp [World.setCell, Array.getElem?_modify, h]
/-- A tape that a call made. -/
abbrev Tap (w : World) (b : Nat) (k n : ByteArray) : Prop := Tap3 w b k n true
/-- What no call made. -/
def Nob (w : World) (v : Value) : Prop := v = .pointer none ∨ ∃ b, v = .pointer (some ⟨b, 0, none⟩) ∧ Tap3 w b ByteArray.empty ByteArray.empty false

set_option maxRecDepth 100000 in
set_option maxHeartbeats 400000 in
theorem tmade_yes {w : World} {b : Nat} {k n : ByteArray} {m : Bool} (h : Tap3 w b k n m) :
    Calls Tryz.prog 89 #[.pointer (some ⟨b, 0, none⟩)] w fun e w' => e = .returned (.bool m) ∧ w = w' := by
  obtain ⟨c0, c1, c2, f0, f1, f2⟩ := h.cells
  clear h
  go_enter Tryz.func89, Tryz.ntmps89
  go_wp2
  go_ret
  exact ⟨rfl, rfl⟩
set_option maxRecDepth 100000 in
set_option maxHeartbeats 400000 in
theorem tmade_nil (w : World) : Calls Tryz.prog 89 #[.pointer none] w fun e w' => e = .returned (.bool false) ∧ w = w' := by
  go_enter Tryz.func89, Tryz.ntmps89
  go_wp2
  go_ret
  exact ⟨rfl, rfl⟩
theorem tmade_nob {w : World} {v : Value} (h : Nob w v) : Calls Tryz.prog 89 #[v] w fun e w' => e = .returned (.bool false) ∧ w = w' := by
  rcases h with rfl | ⟨b, rfl, h⟩
  · exact tmade_nil w
  · exact tmade_yes h

set_option maxRecDepth 100000 in
set_option maxHeartbeats 400000 in
theorem town_yes {w : World} {b : Nat} {k n : ByteArray} (h : Tap w b k n) :
    Calls Tryz.prog 135 #[.pointer (some ⟨b, 0, none⟩)] w fun e w' => e = .returned (.pointer (some ⟨b, 0, none⟩)) ∧ w = w' := by
  go_enter Tryz.func135, Tryz.ntmps135
  go_wp2_with (go_at_call 89; refine (tmade_yes h).mono ?_; rintro e w' ⟨rfl, rfl⟩)
  go_ret
  exact ⟨rfl, rfl⟩
set_option maxRecDepth 100000 in
set_option maxHeartbeats 400000 in
theorem town_nob {w : World} {v : Value} (h : Nob w v) :
    Calls Tryz.prog 135 #[v] w fun e w' => e = .returned (.pointer (some ⟨w.heap.size, 0, none⟩)) ∧ w' = w.alloc (.cells #[.string ByteArray.empty, .string ByteArray.empty, .bool false] 166) := by
  go_enter Tryz.func135, Tryz.ntmps135
  go_wp2_with (go_at_call 89; refine (tmade_nob h).mono ?_; rintro e w' ⟨rfl, rfl⟩)
  go_ret
  exact ⟨rfl, rfl⟩
set_option maxRecDepth 100000 in
set_option maxHeartbeats 400000 in
theorem tviews_yes {w : World} {b : Nat} {k n : ByteArray} (h : Tap w b k n) :
    Calls Tryz.prog 90 #[.pointer (some ⟨b, 0, none⟩)] w fun e w' => e = .returned (.tuple #[.func (.func 136) #[.pointer (some ⟨b, 1, none⟩)] #[], .func (.func 137) #[.pointer (some ⟨b, 0, none⟩)] #[]]) ∧ w' = w.drew := by
  go_enter Tryz.func90, Tryz.ntmps90
  go_wp2_with (go_at_call 135; refine (town_yes h).mono ?_; rintro e w' ⟨rfl, rfl⟩)
  go_region
  all_goals (go_wp2; go_ret2; exact ⟨rfl, rfl⟩)
set_option maxRecDepth 100000 in
set_option maxHeartbeats 400000 in
theorem tviews_nob {w : World} {v : Value} (h : Nob w v) :
    Calls Tryz.prog 90 #[v] w fun e w' => e = .returned (.tuple #[.func (.func 136) #[.pointer (some ⟨w.heap.size, 1, none⟩)] #[], .func (.func 137) #[.pointer (some ⟨w.heap.size, 0, none⟩)] #[]]) ∧ w' = (w.alloc (.cells #[.string ByteArray.empty, .string ByteArray.empty, .bool false] 166)).drew := by
  go_enter Tryz.func90, Tryz.ntmps90
  go_wp2_with (go_at_call 135; refine (town_nob h).mono ?_; rintro e w' ⟨rfl, rfl⟩)
  go_region
  all_goals (go_wp2; go_ret2; exact ⟨rfl, rfl⟩)
set_option maxRecDepth 100000 in
set_option maxHeartbeats 400000 in
theorem tchanges_yes {w : World} {b : Nat} {k n : ByteArray} (h : Tap w b k n) :
    Calls Tryz.prog 94 #[.pointer (some ⟨b, 0, none⟩)] w fun e w' => e = .returned (.tuple #[.func (.func 121) #[.pointer (some ⟨b, 1, none⟩)] #[], .func (.func 122) #[.pointer (some ⟨b, 0, none⟩)] #[]]) ∧ w' = w.drew := by
  go_enter Tryz.func94, Tryz.ntmps94
  go_wp2_with (go_at_call 135; refine (town_yes h).mono ?_; rintro e w' ⟨rfl, rfl⟩)
  go_region
  all_goals (go_wp2; go_ret2; exact ⟨rfl, rfl⟩)
set_option maxRecDepth 100000 in
set_option maxHeartbeats 400000 in
theorem tchanges_nob {w : World} {v : Value} (h : Nob w v) :
    Calls Tryz.prog 94 #[v] w fun e w' => e = .returned (.tuple #[.func (.func 121) #[.pointer (some ⟨w.heap.size, 1, none⟩)] #[], .func (.func 122) #[.pointer (some ⟨w.heap.size, 0, none⟩)] #[]]) ∧ w' = (w.alloc (.cells #[.string ByteArray.empty, .string ByteArray.empty, .bool false] 166)).drew := by
  go_enter Tryz.func94, Tryz.ntmps94
  go_wp2_with (go_at_call 135; refine (town_nob h).mono ?_; rintro e w' ⟨rfl, rfl⟩)
  go_region
  all_goals (go_wp2; go_ret2; exact ⟨rfl, rfl⟩)

-- MARK: by gen_tape.py
set_option maxRecDepth 100000 in
set_option maxHeartbeats 400000 in
theorem tlasting {w : World} {b : Nat} {k n : ByteArray} {m : Bool} (h : Tap3 w b k n m) : Calls Tryz.prog 136 #[.pointer (some ⟨b, 1, none⟩)] w fun e w' => e = .returned (.string k) ∧ w = w' := by
  obtain ⟨c0, c1, c2, f0, f1, f2⟩ := h.cells
  clear h
  go_enter Tryz.func136, Tryz.ntmps136
  go_wp2
  go_ret
  exact ⟨rfl, rfl⟩
set_option maxRecDepth 100000 in
set_option maxHeartbeats 400000 in
theorem tshown {w : World} {b : Nat} {k n : ByteArray} {m : Bool} (h : Tap3 w b k n m) : Calls Tryz.prog 137 #[.pointer (some ⟨b, 0, none⟩)] w fun e w' => e = .returned (.string n) ∧ w = w' := by
  obtain ⟨c0, c1, c2, f0, f1, f2⟩ := h.cells
  clear h
  go_enter Tryz.func137, Tryz.ntmps137
  go_wp2
  go_ret
  exact ⟨rfl, rfl⟩
set_option maxRecDepth 100000 in
set_option maxHeartbeats 400000 in
theorem tkeep {w : World} {b : Nat} {k n : ByteArray} {m : Bool} (h : Tap3 w b k n m) (s : ByteArray) : Calls Tryz.prog 121 #[.pointer (some ⟨b, 1, none⟩), .string s] w fun e w' => e = .returned (.tuple #[]) ∧ w' = w.setCell ⟨b, 1, none⟩ (.string s) := by
  obtain ⟨c0, c1, c2, f0, f1, f2⟩ := h.cells
  clear h
  go_enter Tryz.func121, Tryz.ntmps121
  go_wp2
  go_end0
  exact ⟨rfl, rfl⟩
set_option maxRecDepth 100000 in
set_option maxHeartbeats 400000 in
theorem tshow {w : World} {b : Nat} {k n : ByteArray} {m : Bool} (h : Tap3 w b k n m) (s : ByteArray) : Calls Tryz.prog 122 #[.pointer (some ⟨b, 0, none⟩), .string s] w fun e w' => e = .returned (.tuple #[]) ∧ w' = w.setCell ⟨b, 0, none⟩ (.string s) := by
  obtain ⟨c0, c1, c2, f0, f1, f2⟩ := h.cells
  clear h
  go_enter Tryz.func122, Tryz.ntmps122
  go_wp2
  go_end0
  exact ⟨rfl, rfl⟩

/-- The views of a value: of a tape its own, of what no call made an empty block's. -/
def Views (w : World) (v : Value) (b : Nat) (k n : ByteArray) (w1 : World) : Prop :=
  (Calls Tryz.prog 90 #[v] w fun e w' => e = .returned (.tuple #[.func (.func 136) #[.pointer (some ⟨b, 1, none⟩)] #[], .func (.func 137) #[.pointer (some ⟨b, 0, none⟩)] #[]]) ∧ w' = w1) ∧ ∃ m, Tap3 w1 b k n m
set_option maxRecDepth 100000 in
set_option maxHeartbeats 400000 in
theorem views_yes {w : World} {b : Nat} {k n : ByteArray} (h : Tap w b k n) : Views w (.pointer (some ⟨b, 0, none⟩)) b k n w.drew := ⟨tviews_yes h, true, h⟩
set_option maxRecDepth 100000 in
set_option maxHeartbeats 400000 in
theorem views_nob {w : World} {v : Value} (h : Nob w v) : Views w v w.heap.size ByteArray.empty ByteArray.empty (w.alloc (.cells #[.string ByteArray.empty, .string ByteArray.empty, .bool false] 166)).drew := ⟨tviews_nob h, false, Tap3.new w _ _ _⟩
set_option maxRecDepth 100000 in
set_option maxHeartbeats 400000 in
theorem tnow_v {w w1 : World} {v : Value} {b : Nat} {k n : ByteArray} (h : Views w v b k n w1) : Calls Tryz.prog 79 #[v] w fun e w' => e = .returned (.string n) ∧ w' = w1 := by
  obtain ⟨c, m, h⟩ := h
  have C := Lib.hid c; have H := Lib.hid h; clear c h
  go_enter Tryz.func79, Tryz.ntmps79
  go_wp2_with (first | (go_at_call 90; refine C.out.mono ?_; rintro e w' ⟨rfl, rfl⟩) | (go_at_call 137; refine (tshown H.out).mono ?_; rintro e w' ⟨rfl, rfl⟩))
  go_ret
  exact ⟨rfl, rfl⟩
set_option maxRecDepth 100000 in
set_option maxHeartbeats 400000 in
theorem tsectors_v {w w1 : World} {v : Value} {b : Nat} {k n : ByteArray} (h : Views w v b k n w1) (hb : Below w.heap.size w w1) (hk : k.size ≤ 4294967296) (hn : n.size ≤ 4294967296) :
    Calls Tryz.prog 45 #[v] w fun e w' => e = .returned (.int .i64 (cntN (max k.size n.size))) ∧ Below w.heap.size w w' := by
  obtain ⟨c, m, h⟩ := h
  have cc := pcount_any ((max k.size n.size : Nat) : Int) (by omega) (by omega)
  rw [cntI_nat] at cc
  have C := Lib.hid c; have H := Lib.hid h; have CC := Lib.hid cc; have HB := Lib.hid hb; clear c h cc hb
  go_enter Tryz.func45, Tryz.ntmps45
  go_wp2_with fail
  refine C.out.mono ?_
  rintro e w' ⟨rfl, rfl⟩
  go_wp2_with fail
  refine (tlasting H.out).mono ?_
  rintro e w' ⟨rfl, rfl⟩
  go_wp2_with fail
  refine (tshown H.out).mono ?_
  rintro e w' ⟨rfl, rfl⟩
  go_wp2_with fail
  all_goals
    first
      | rw [show ((k.size : Nat) : Int) = ((max k.size n.size : Nat) : Int) from by omega]
      | rw [show ((n.size : Nat) : Int) = ((max k.size n.size : Nat) : Int) from by omega]
    refine (CC.out _).mono ?_
    rintro e w' ⟨rfl, rfl⟩
    go_wp2
    go_ret
    exact ⟨rfl, HB.out⟩
end Go.Proofs.YtfgecjlccngddaaGreat
