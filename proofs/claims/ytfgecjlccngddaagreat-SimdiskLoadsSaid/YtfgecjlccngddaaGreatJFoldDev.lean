/-
  Joined: FoldDev1.
-/
import Derived.Test.YtfgecjlccngddaaGreatJFoldMap
import Derived.Maps.OwnOps
import Derived.Deep.RegionHeld3
import Derived.Deep.RegionWith
import Derived.Deep.DeepCutAuto
namespace Go.Proofs.YtfgecjlccngddaaGreat
set_option linter.unusedSimpArgs false
set_option linter.unusedVariables false
open Go.RowKit
set_option linter.unusedVariables false

abbrev Chg.v (c : Chg) : Value := .agg #[.int .i64 c.kind, .string c.name, .string c.dest, .int .i64 c.id]
abbrev Chg.cells (c : Chg) : Array Value := #[.int .i64 c.kind, .string c.name, .string c.dest, .int .i64 c.id]
theorem findE_put {l : List Ent} {c : Chg} (hk : c.kind = 0) (hn : (findE l c.name).isSome = false) (t : ByteArray) : findE (chgE l c) t = if c.name = t then some c.id else findE l t := by
  unfold chgE
  rw [if_pos hk, findE_withE (findE_no hn)]
theorem findE_drop {l : List Ent} {c : Chg} (hk : c.kind = 1) (t : ByteArray) : findE (chgE l c) t = if c.name = t then none else findE l t := by
  unfold chgE
  rw [if_neg (by rw [hk]; omega), if_pos hk, findE_withoutE]
/-- Between the two steps of a move. -/
def midE (l : List Ent) (c : Chg) : List Ent := withE (withoutE l c.dest) ⟨c.dest, (findE l c.name).getD 0⟩
theorem findE_mid (l : List Ent) (c : Chg) (t : ByteArray) : findE (midE l c) t = if c.dest = t then some ((findE l c.name).getD 0) else findE l t := by
  unfold midE
  rw [findE_withE (x := ⟨c.dest, (findE l c.name).getD 0⟩) (fun e he => ((mem_withoutE _ _ _).1 he).2), findE_withoutE]
  by_cases h : c.dest = t
  · rw [if_pos h, if_pos h]
  · rw [if_neg h, if_neg h, if_neg h]
theorem findE_move {l : List Ent} {c : Chg} (hk : c.kind = 2) (hne : c.name ≠ c.dest) (t : ByteArray) : findE (chgE l c) t = if c.name = t then none else findE (midE l c) t := by
  unfold chgE
  rw [if_neg (by rw [hk]; omega), if_neg (by rw [hk]; omega), findE_mid, findE_withE (x := ⟨c.dest, (findE l c.name).getD 0⟩) (two_no l _ _), findE_withoutE, findE_withoutE]
  show (if c.dest = t then some ((findE l c.name).getD 0) else _) = _
  by_cases h : c.dest = t
  · rw [if_pos h, if_neg (fun g => hne (g.trans h.symm)), if_pos h]
  · rw [if_neg h, if_neg h, if_neg h]
theorem rise_mid {l : List Ent} (h : rise l) (c : Chg) : rise (midE l c) := rise_withE (rise_withoutE h _) (fun e he => ((mem_withoutE _ _ _).1 he).2)
theorem getD_range {l : List Ent} (hl : okE l) (s : ByteArray) : -9223372036854775808 ≤ (findE l s).getD 0 ∧ (findE l s).getD 0 ≤ 9223372036854775807 := by
  cases h : findE l s with
  | none => exact ⟨by show (-9223372036854775808 : Int) ≤ 0; omega, by show (0 : Int) ≤ 9223372036854775807; omega⟩
  | some n =>
    obtain ⟨e, he, _, hid⟩ := findE_id h
    show -9223372036854775808 ≤ n ∧ n ≤ 9223372036854775807
    rw [← hid]
    exact (hl.2 e he).2
theorem alloc_cell (w : World) (cs : Array Value) (t : TypeId) (k : Nat) : (w.alloc (.cells cs t)).cell? ⟨w.heap.size, k, none⟩ = cs[k]? := by
  unfold World.cell?
  rw [(MapKept.heap_alloc w _).1]
  rfl
theorem MapE.box {w : World} {b : Nat} {l : List Ent} (h : MapE w b l) (o : Obj) : MapE (w.alloc o) b l := h.keep (Below.heap_alloc _ _ b h.lt)
set_option maxRecDepth 100000 in
set_option maxHeartbeats 800000 in
theorem comake_put {w : World} {b : Nat} {l : List Ent} (h : MapE w b l) (hl : okE l) (hn : l.length ≤ 1000000) (s d : ByteArray) (n : Int) (hf : Chg.fits ⟨0, s, d, n⟩) (hno : (findE l s).isSome = false) :
    Calls Tryz.prog 156 #[.agg #[.int .i64 0, .string s, .string d, .int .i64 n], .map (some b)] w fun e w' => e = .returned (.tuple #[]) ∧ MapE w' b (chgE l ⟨0, s, d, n⟩) ∧ Apart [b] w w' := by
  obtain ⟨f1, f2, f3, f4⟩ : s.size ≤ maxLen ∧ d.size ≤ maxLen ∧ -9223372036854775808 ≤ n ∧ n ≤ 9223372036854775807 := hf
  obtain ⟨w1, hrun, hm, ha⟩ := (h.box (.cells #[.int .i64 0, .string s, .string d, .int .i64 n] 122)).store hl.1 hn f1 f3 f4 (findE_put (c := ⟨0, s, d, n⟩) rfl hno)
  have ha2 : Apart [b] w w1 := ((Apart.refl [b] w).alloc _).trans ha (fun x hx => .inl hx)
  clear h hl ha
  go_enter Tryz.func156, Tryz.ntmps156
  go_wp2
  go_end0
  exact ⟨rfl, hm, ha2⟩
set_option maxRecDepth 100000 in
set_option maxHeartbeats 800000 in
theorem comake_drop {w : World} {b : Nat} {l : List Ent} (h : MapE w b l) (s d : ByteArray) (n : Int) (hf : Chg.fits ⟨1, s, d, n⟩) :
    Calls Tryz.prog 156 #[.agg #[.int .i64 1, .string s, .string d, .int .i64 n], .map (some b)] w fun e w' => e = .returned (.tuple #[]) ∧ MapE w' b (chgE l ⟨1, s, d, n⟩) ∧ Apart [b] w w' := by
  obtain ⟨f1, f2, f3, f4⟩ : s.size ≤ maxLen ∧ d.size ≤ maxLen ∧ -9223372036854775808 ≤ n ∧ n ≤ 9223372036854775807 := hf
  obtain ⟨w1, hrun, hm, ha⟩ := (h.box (.cells #[.int .i64 1, .string s, .string d, .int .i64 n] 122)).drop f1 (findE_drop (c := ⟨1, s, d, n⟩) rfl) 0
  have ha2 : Apart [b] w w1 := ((Apart.refl [b] w).alloc _).trans ha (fun x hx => .inl hx)
  clear h ha
  go_enter Tryz.func156, Tryz.ntmps156
  go_wp2
  go_end0
  exact ⟨rfl, hm, ha2⟩
set_option maxRecDepth 100000 in
set_option maxHeartbeats 800000 in
theorem comake_move {w : World} {b : Nat} {l : List Ent} (h : MapE w b l) (hl : okE l) (hn : l.length ≤ 1000000) (s d : ByteArray) (n : Int) (hf : Chg.fits ⟨2, s, d, n⟩) (hne : s ≠ d) :
    Calls Tryz.prog 156 #[.agg #[.int .i64 2, .string s, .string d, .int .i64 n], .map (some b)] w fun e w' => e = .returned (.tuple #[]) ∧ MapE w' b (chgE l ⟨2, s, d, n⟩) ∧ Apart [b] w w' := by
  obtain ⟨f1, f2, f3, f4⟩ : s.size ≤ maxLen ∧ d.size ≤ maxLen ∧ -9223372036854775808 ≤ n ∧ n ≤ 9223372036854775807 := hf
  obtain ⟨r1, r2⟩ := getD_range hl s
  have hlt := h.lt
  have hlook := (h.box (.cells #[.int .i64 2, .string s, .string d, .int .i64 n] 122)).look f1
  obtain ⟨w1, hrun, hm, ha⟩ := (h.box (.cells #[.int .i64 2, .string s, .string d, .int .i64 n] 122)).store hl.1 hn f2 r1 r2 (findE_mid l ⟨2, s, d, n⟩)
  have hc : w1.cell? ⟨w.heap.size, 1, none⟩ = some (.string s) := (ha.cell (p := ⟨w.heap.size, 1, none⟩) (by simp) (fun g => by have : w.heap.size = b := List.mem_singleton.1 g; omega)).trans (alloc_cell _ _ _ _)
  obtain ⟨w2, hrun2, hm2, ha2⟩ := hm.drop f1 (findE_move (c := ⟨2, s, d, n⟩) rfl hne) 0
  have ha3 : Apart [b] w w2 := (((Apart.refl [b] w).alloc _).trans ha (fun x hx => .inl hx)).trans ha2 (fun x hx => .inl hx)
  clear h hl ha hm ha2
  generalize (findE l s).getD 0 = m at *
  go_enter Tryz.func156, Tryz.ntmps156
  go_wp2
  go_end0
  exact ⟨rfl, hm2, ha3⟩
theorem comake_any {w : World} {b : Nat} {l : List Ent} (h : MapE w b l) (hl : okE l) (hn : l.length ≤ 1000000) (c : Chg) (hc : c.may l) :
    Calls Tryz.prog 156 #[c.v, .map (some b)] w fun e w' => e = .returned (.tuple #[]) ∧ MapE w' b (chgE l c) ∧ Apart [b] w w' := by
  obtain ⟨k, s, d, n⟩ := c
  obtain ⟨hf, hc⟩ := hc
  rcases hc with ⟨rfl, hno⟩ | rfl | ⟨rfl, _, hne⟩
  · exact comake_put h hl hn s d n hf hno
  · exact comake_drop h s d n hf
  · exact comake_move h hl hn s d n hf hne
end Go.Proofs.YtfgecjlccngddaaGreat
