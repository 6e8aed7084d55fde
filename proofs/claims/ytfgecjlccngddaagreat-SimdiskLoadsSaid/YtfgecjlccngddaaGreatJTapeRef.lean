/-
  Joined: TapeRef.
-/
import Derived.Test.YtfgecjlccngddaaGreatRows
import Derived.Test.YtfgecjlccngddaaGreatJBlendRef
import Derived.Test.YtfgecjlccngddaaGreatJPieceRef
import Derived.Lib.MinMax
namespace Go.Proofs.YtfgecjlccngddaaGreat
set_option linter.unusedSimpArgs false
set_option linter.unusedVariables false
open Go.RowKit
set_option linter.unusedVariables false

/-- Both views by value. -/
abbrev tpV (k n : ByteArray) : Value := .agg #[.string k, .string n]
/-- A block of both. -/
def Two (w : World) (g : Nat) (k n : ByteArray) : Prop := w.heap[g]? = some (.cells #[.string k, .string n] 104 (0, 0))
theorem Two.lt {w : World} {g : Nat} {k n : ByteArray} (h : Two w g k n) : g < w.heap.size := lt_of_block h
theorem Two.cells {w : World} {g : Nat} {k n : ByteArray} (h : Two w g k n) :
    w.cell? ⟨g, 0, none⟩ = some (.string k) ∧ w.cell? ⟨g, 1, none⟩ = some (.string n) ∧ w.frozen? ⟨g, 0, none⟩ = false ∧ w.frozen? ⟨g, 1, none⟩ = false := by
  unfold Two at h
  refine ⟨?_, ?_, ?_, ?_⟩ <;> simp [World.cell?, World.frozen?, h]
theorem Two.keep {w w' : World} {g : Nat} {k n : ByteArray} (h : Two w g k n) (hk : w'.heap[g]? = w.heap[g]?) : Two w' g k n := hk.trans h
theorem Two.new (w : World) (k n : ByteArray) : Two (w.alloc (.cells #[.string k, .string n] 104)) w.heap.size k n := by
  show (w.heap.push _)[w.heap.size]? = _
  simp
theorem Two.set0 {w : World} {g : Nat} {k n : ByteArray} (h : Two w g k n) (s : ByteArray) : Two (w.setCell ⟨g, 0, none⟩ (.string s)) g s n := by
  unfold Two at *
  simp [World.setCell, Array.getElem?_modify, h]
theorem Two.set1 {w : World} {g : Nat} {k n : ByteArray} (h : Two w g k n) (s : ByteArray) : Two (w.setCell ⟨g, 1, none⟩ (.string s)) g k s := by
  unfold Two at *
  simp [World.setCell, Array.getElem?_modify, h]

def RetTp (w : World) (k n : ByteArray) (v : Value) (e : Ending) (w' : World) : Prop := e = .returned (.tuple #[tpV k n, v]) ∧ Below w.heap.size w w'

set_option maxRecDepth 100000 in
set_option maxHeartbeats 400000 in
theorem rtcut_no (k n : ByteArray) (m : Int) (hm : m < 0 ∨ (n.size : Int) < m) (w : World) : Calls Tryz.prog 152 #[tpV k n, .int .i64 m] w (RetTp w k n (.bool false)) := by
  by_cases h0 : m < 0
  · clear hm
    go_enter Tryz.func152, Tryz.ntmps152
    go_wp2
    refine bodyPost_ret (v := .tuple #[tpV k n, .bool false]) (by simp [results, Tryz.results152, go_sem]) rfl ⟨rfl, ?_⟩
    exact ((Below.refl _ _).alloc (Nat.le_refl _) _).alloc (by simp) _
  · have h1 : (n.size : Int) < m := by omega
    clear hm
    go_enter Tryz.func152, Tryz.ntmps152
    go_wp2
    refine bodyPost_ret (v := .tuple #[tpV k n, .bool false]) (by simp [results, Tryz.results152, go_sem]) rfl ⟨rfl, ?_⟩
    exact ((Below.refl _ _).alloc (Nat.le_refl _) _).alloc (by simp) _
set_option maxRecDepth 100000 in
set_option maxHeartbeats 400000 in
theorem rtcut_yes (k n : ByteArray) (hn : n.size ≤ 4294967296) (m : Nat) (hm : m ≤ n.size) (w : World) : Calls Tryz.prog 152 #[tpV k n, .int .i64 m] w (RetTp w k (n.extract 0 m) (.bool true)) := by
  go_enter Tryz.func152, Tryz.ntmps152
  go_wp2
  refine bodyPost_ret (v := .tuple #[tpV k (n.extract 0 m), .bool true]) (by simp [results, Tryz.results152, go_sem]) rfl ⟨rfl, ?_⟩
  exact ((Below.refl _ _).alloc (Nat.le_refl _) _).alloc (by simp) _
set_option maxRecDepth 100000 in
set_option maxHeartbeats 400000 in
theorem rtcrash_any (k n : ByteArray) (hk : k.size ≤ 4294967296) (hn : n.size ≤ 4294967296) (c : ByteArray) (w : World) :
    Calls Tryz.prog 113 #[tpV k n, .string c] w (RetTp w (mixOf k n c) (mixOf k n c) (.int .i64 (mixUs k n c))) := by
  have cm := rmix_any k n c hk hn
  obtain ⟨x, hx⟩ : ∃ x, mixOf k n c = x := ⟨_, rfl⟩
  obtain ⟨u, hu⟩ : ∃ u, mixUs k n c = u := ⟨_, rfl⟩
  rw [hx, hu] at cm ⊢
  have CM := Lib.hid cm; clear cm hx hu
  go_enter Tryz.func113, Tryz.ntmps113
  go_wp2_with fail
  refine (CM.out _).mono ?_
  rintro e w2 ⟨rfl, hb2⟩
  have hX : Below w.heap.size w w2 := (((Below.refl _ _).alloc (Nat.le_refl _) _).alloc (by simp) _).trans (hb2.mono (by simp; omega))
  have h3 := Two.new (w.alloc (.cells #[.string k, .string n] 104)) ByteArray.empty ByteArray.empty
  simp only [World.size_alloc] at h3
  have h4 : Two w2 (w.heap.size + 1) ByteArray.empty ByteArray.empty := h3.keep (hb2.block _ (by simp))
  obtain ⟨c0, c1, f0, f1⟩ := h4.cells
  have HX := Lib.hid hX; clear hX hb2 h3 h4
  go_wp2
  refine bodyPost_ret (v := .tuple #[tpV x x, .int .i64 u]) (by simp [results, Tryz.results113, go_sem, c0, c1]) rfl ⟨rfl, ?_⟩
  exact (HX.out.setCell (by simp) _).setCell (by simp) _
set_option maxRecDepth 100000 in
set_option maxHeartbeats 400000 in
theorem rtsectors_any (k n : ByteArray) (hk : k.size ≤ 4294967296) (hn : n.size ≤ 4294967296) (w : World) :
    Calls Tryz.prog 120 #[tpV k n] w fun e w' => e = .returned (.int .i64 (cntN (max k.size n.size))) ∧ Below w.heap.size w w' := by
  have cc := rcount_any (max (k.size : Int) (n.size : Int)) (by omega) (by omega)
  rw [show cntI (max (k.size : Int) (n.size : Int)) = cntN (max k.size n.size) from by rw [← cntI_nat]; congr 1; omega] at cc
  have CC := Lib.hid cc; clear cc
  go_enter Tryz.func120, Tryz.ntmps120
  go_wp2_with fail
  refine (CC.out _).mono ?_
  rintro e w' ⟨rfl, rfl⟩
  go_wp2
  go_ret
  exact ⟨rfl, (Below.refl _ _).alloc (Nat.le_refl _) _⟩
end Go.Proofs.YtfgecjlccngddaaGreat
