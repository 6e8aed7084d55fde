/-
  Contracts of the program's frames: put, begun.
-/
import Derived.Test.YtibbglmhcjnedaaDoorFrameDev
import Derived.Lib.SlBuf
import Derived.Lib.BufferWrite
import Derived.WalkMore
import Derived.ChangeKeysEq
namespace Go.Proofs.YtibbglmhcjnedaaDoor
open Go.RowKit
set_option linter.unusedVariables false

/-- What put has laid behind j methods. -/
def putJ (x1 x2 x3 : ByteArray) : Nat → ByteArray
  | 0 => ⟨#[]⟩
  | 1 => ⟨#[]⟩ ++ x1
  | 2 => ⟨#[]⟩ ++ x1 ++ x2
  | _ => ⟨#[]⟩ ++ x1 ++ x2 ++ x3
abbrev fnV (F : FuncId) : Value := .func (.func F) #[] #[]
theorem bx3_at {w w' : World} {x y z : Value} {b : Nat} {cs : Array Value} {T : TypeId} (h : Bx3 w x y z w') (hb : Blk w b cs T) : Blk w' b cs T := hb.below h.1 hb.lt

/-- The first bytes stand where the program has them. -/
def First (w : World) : Prop := w.cell? ⟨0, 0, none⟩ = some (.int .u8 83) ∧ w.cell? ⟨0, 1, none⟩ = some (.int .u8 74) ∧ 0 < w.heap.size
theorem First.below {B : Nat} {w w' : World} (h : First w) (hb : Below B w w') (hB : 0 < B) : First w' :=
  ⟨(hb.cell (p := ⟨0, 0, none⟩) hB).trans h.1, (hb.cell (p := ⟨0, 1, none⟩) hB).trans h.2.1, Nat.lt_of_lt_of_le h.2.2 hb.size⟩
theorem First.onto {w w' : World} (h : First w) (hb : Below w.heap.size w w') : First w' := h.below hb h.2.2

open Lib in
/-- copy(row[o:o+n], s) where s may be longer than the row. -/
theorem copy_cut {P : Program} (w : World) (dT sT ty elem : TypeId) (g o dLen dCap : Nat) (s : ByteArray) (cur : Array Value) (t : TypeId) (m : Nat)
    (hu : P.underlying dT = some (.slice elem)) (hs : (P.info? elem).map (·.size) = some 1) (hg : w.heap[g]? = some (.cells cur t (0, 0))) (hm : Nat.min s.size dLen = m) (hfit : o + m ≤ cur.size) :
    (Builtin.copy_ #[dT, sT] ty #[.slice (some ⟨g, o, none⟩) dLen dCap, .string s]).run P w =
      .ok (goInt m) (w.setRow g (cur.toList.take o ++ byteCells (s.data.toList.take m) ++ cur.toList.drop (o + m)).toArray) := by
  have hms : m ≤ s.size := by rw [← hm]; exact Nat.min_le_left _ _
  have hlen : (byteCells (s.data.toList.take m)).length = m := by rw [byteCells_length, List.length_take]; simp; omega
  have hst := run_storeCells_at P g o t (byteCells (s.data.toList.take m)) 0 cur w hg (by rw [hlen]; simpa using hfit) (byteCells_one _)
  have htk : List.take m (List.map (fun b : UInt8 => Value.int IntKind.u8 (b.toNat : Int)) s.data.toList) = byteCells (s.data.toList.take m) := by
    rw [← List.map_take]; rfl
  rw [hlen] at hst
  simp only [Nat.add_zero] at hst
  cases hq : P.info? elem with
  | none => simp [hq] at hs
  | some i =>
    simp [Builtin.copy_, run_underlying hu, Builtin.lenOf, Builtin.firstCells, sizeOf, typeInfo, hq, hm]
    rw [htk, hst]
    simp [Result.andThen]
theorem fbyte_one : (Tryd.prog.info? 5).map (·.size) = some 1 := by kernel_rfl
theorem fsetRow_below {B : Nat} {a w : World} (h : Below B a w) {g : Nat} (hg : B ≤ g) (cs : Array Value) : Below B a (w.setRow g cs) :=
  ⟨h.os, h.tape, h.output, by have := h.size; simpa [World.setRow] using this, fun i hi => by
    rw [← h.block i hi]; show (w.heap.modify g _)[i]? = _; rw [Array.getElem?_modify, if_neg (by omega)]⟩
/-- The first bytes with those of s laid over them. -/
def ovr (l : List UInt8) (i : Nat) (d : Nat) : Nat := if i < l.length then bt l i else d
theorem begB_ovr (l : List UInt8) : begB l = (decide (ovr l 0 83 = 83) && decide (ovr l 1 74 = 74)) := by
  unfold begB ovr
  by_cases h0 : 0 < l.length <;> by_cases h1 : 1 < l.length
  · rw [if_pos h0, if_pos h1, decide_eq_false (show ¬ l.length < 1 by omega), decide_eq_false (show ¬ l.length < 2 by omega)]; simp
  · rw [if_pos h0, if_neg h1, decide_eq_false (show ¬ l.length < 1 by omega), decide_eq_true (show l.length < 2 by omega)]; simp
  · omega
  · rw [if_neg h0, if_neg h1, decide_eq_true (show l.length < 1 by omega), decide_eq_true (show l.length < 2 by omega)]; simp
theorem ovr_row (l : List UInt8) (m : Nat) (hm : Nat.min l.length 2 = m) :
    ((#[Value.int .u8 83, Value.int .u8 74] : Array Value).toList.take 0 ++ Lib.byteCells (l.take m) ++ (#[Value.int .u8 83, Value.int .u8 74] : Array Value).toList.drop (0 + m)).toArray = #[.int .u8 (ovr l 0 83 : Nat), .int .u8 (ovr l 1 74 : Nat)] := by
  unfold ovr
  match l with
  | [] => simp at hm; subst hm; rfl
  | [a] => simp at hm; subst hm; simp [Lib.byteCells, bt]
  | a :: b :: r => 
    have : m = 2 := by rw [← hm]; show min (r.length + 1 + 1) 2 = 2; omega
    subst this
    simp [Lib.byteCells, bt]
theorem fcopy_run (s : ByteArray) (w : World) : ∃ wd, (Builtin.copy_ #[46, 9] 3 #[.slice (some ⟨w.heap.size, 0, none⟩) 2 2, .string s]).run Tryd.prog (w.alloc (.cells #[.int .u8 83, .int .u8 74] 97)) = .ok (.int .i64 (Nat.min s.size 2)) wd ∧
    Blk wd w.heap.size #[.int .u8 (ovr s.data.toList 0 83 : Nat), .int .u8 (ovr s.data.toList 1 74 : Nat)] 97 ∧ Below w.heap.size w wd := by
  have hl : s.data.toList.length = s.size := by simp
  have hb : (w.alloc (.cells #[.int .u8 83, .int .u8 74] 97)).heap[w.heap.size]? = some (.cells #[.int .u8 83, .int .u8 74] 97 (0, 0)) := heap_alloc_new w _
  have h := copy_cut (P := Tryd.prog) (w.alloc (.cells #[.int .u8 83, .int .u8 74] 97)) 46 9 3 5 w.heap.size 0 2 2 s #[.int .u8 83, .int .u8 74] 97 (Nat.min s.size 2) Tryd.underlying46 fbyte_one hb rfl
    (by have h2 : Nat.min s.size 2 ≤ 2 := Nat.min_le_right s.size 2; show 0 + Nat.min s.size 2 ≤ 2; rw [Nat.zero_add]; exact h2)
  rw [ovr_row s.data.toList _ (by rw [hl])] at h
  exact ⟨_, h, setRow_heap _ _ _ _ _ _ hb, fsetRow_below ((Below.refl _ _).alloc (Nat.le_refl _) _) (Nat.le_refl _) _⟩

theorem feq2 (a b c d : Int) (w : World) : (Op.equalIn 10000 97 (.agg #[.int .u8 a, .int .u8 b]) (.agg #[.int .u8 c, .int .u8 d])).run Tryd.prog w = .ok (a == c && b == d) w := by
  obtain ⟨i, hi⟩ : ∃ i, Tryd.prog.info? 5 = some i := by
    have h := fbyte_one
    cases h2 : Tryd.prog.info? 5 with
    | none => rw [h2] at h; cases h
    | some i => exact ⟨i, rfl⟩
  have c5 : Tryd.prog.cellsOf 5 = 1 := by kernel_rfl
  rw [run_equalIn_array (w := w) 9999 _ _ Tryd.underlying97 hi, c5]
  show (Op.eqItems 9999 5 1 _ _ [0, 1]).run _ _ = _
  simp [Op.eqItems, go_sem]
  by_cases h1 : a = c <;> by_cases h2 : b = d <;> simp [h1, h2]
set_option maxRecDepth 100000 in
set_option maxHeartbeats 400000 in
theorem fbegun_any (s : ByteArray) (w : World) (hF : First w) :
    Calls Tryd.prog 50 #[.string s] w fun e w' => e = .returned (.bool (begB s.data.toList)) ∧ Below w.heap.size w w' := by
  obtain ⟨wd, hcp, hbl, hbel⟩ := fcopy_run s w
  have hF2 := hF.onto hbel
  rw [begB_ovr]
  obtain ⟨f0, f1, f2⟩ := hF
  obtain ⟨g0, g1, g2⟩ := hF2
  have k0 := hbl.cell 0 _ rfl
  have k1 := hbl.cell 1 _ rfl
  obtain ⟨y0, hy0⟩ : ∃ y, ovr s.data.toList 0 83 = y := ⟨_, rfl⟩
  obtain ⟨y1, hy1⟩ : ∃ y, ovr s.data.toList 1 74 = y := ⟨_, rfl⟩
  rw [hy0, hy1] at k0 k1 ⊢
  have HB := Lib.hid hbel
  clear hbl hbel hy0 hy1
  have heq := feq2 y0 y1 83 74 wd
  go_enter Tryd.func50, Tryd.ntmps50
  go_wp2
  go_ret
  exact ⟨ret_bool (by rw [Bool.eq_iff_iff]; simp; omega), HB.out⟩
end Go.Proofs.YtibbglmhcjnedaaDoor
