/-
  A map whose keys are addresses: what is looked up, what is put.
-/
import Derived.Test.YtephlcdanokolaaProg
import Derived.Test.YtephlcdanokolaaJCells
import Derived.Test.YtephlcdanokolaaObj
import Derived.Laws.Pointers
import Derived.LaidEqlPtr
import Derived.Maps.Own
namespace Go.Proofs.Ytephlcdanokolaa
open Go.RowKit
set_option linter.unusedVariables false
set_option linter.unusedSimpArgs false

/-- Block m is a map that has these keys, each the address of a knot that lies below B. -/
def Seen (w : World) (B m : Nat) (ks : List Nat) : Prop :=
  (∃ es clock, w.heap[m]? = some (.map es clock) ∧ es.toList.map (fun e => (e.key, e.val)) = ks.map fun b => (Value.pointer (some ⟨b, 0, none⟩), Value.agg #[])) ∧ B ≤ m ∧ ∀ k ∈ ks, k < B ∧ ∃ cs t, Blk w k cs t
theorem Seen.lt {w : World} {B m : Nat} {ks : List Nat} (h : Seen w B m ks) : m < w.heap.size := by
  obtain ⟨⟨es, clock, h1, h2⟩, _⟩ := h
  exact (Array.getElem?_eq_some_iff.1 h1).1
theorem Seen.keep {w w' : World} {B m : Nat} {ks : List Nat} (h : Seen w B m ks) (hk : w'.heap[m]? = w.heap[m]?) (hb : ∀ i, i < B → w'.heap[i]? = w.heap[i]?) : Seen w' B m ks := by
  obtain ⟨⟨es, clock, h1, h2⟩, h3, h4⟩ := h
  refine ⟨⟨es, clock, hk.trans h1, h2⟩, h3, fun k hm => ?_⟩
  obtain ⟨g1, cs, t, g2⟩ := h4 k hm
  exact ⟨g1, cs, t, (hb k g1).trans g2⟩
theorem Seen.on {w w' : World} {B m : Nat} {ks : List Nat} (h : Seen w B m ks) (hb : Below w.heap.size w w') : Seen w' B m ks :=
  h.keep (hb.block m h.lt) fun i hi => hb.block i (Nat.lt_trans (Nat.lt_of_lt_of_le hi h.2.1) h.lt)
theorem Seen.made (w : World) : Seen (w.alloc (.map #[] 0)) w.heap.size w.heap.size [] := ⟨⟨#[], 0, (MapKept.heap_alloc w _).1, rfl⟩, Nat.le_refl _, fun k hk => absurd hk (by simp)⟩
theorem knot_info16 : ∃ j, Try.prog.info? 89 = some j ∧ j.size ≠ 0 := by
  have h : (Try.prog.info? 89).map (fun i => decide (i.size = 0)) = some false := by kernel_rfl
  cases g : Try.prog.info? 89 with
  | none => rw [g] at h; cases h
  | some j =>
    rw [g] at h
    exact ⟨j, rfl, by simpa using h⟩
theorem knot_ptr_eq {w : World} {a b : Nat} {ca cb : Array Value} {ta tb : TypeId} (ha : Blk w a ca ta) (hb : Blk w b cb tb) :
    (Op.equal 44 (.pointer (some ⟨a, 0, none⟩)) (.pointer (some ⟨b, 0, none⟩))).run Try.prog w = .ok (decide (a = b)) w := by
  obtain ⟨j, hj, hz⟩ := knot_info16
  by_cases h : a = b
  · subst h
    have g : ∀ d : Nat, (Op.equalIn (d + 1) 44 (.pointer (some ⟨a, 0, none⟩)) (.pointer (some ⟨a, 0, none⟩))).run Try.prog w = .ok true w := fun d => by
      simp [Op.equalIn, run_underlying Try.underlying44, sizeOf, typeInfo, hj, run_sameAddr_same]
    simp [Op.equal, Op.maxDepth, g 9999]
  · have hne : (⟨a, 0, none⟩ : Addr) ≠ ⟨b, 0, none⟩ := fun e => h (by injection e)
    have g : ∀ d : Nat, (Op.equalIn (d + 1) 44 (.pointer (some ⟨a, 0, none⟩)) (.pointer (some ⟨b, 0, none⟩))).run Try.prog w = .ok false w := fun d => by
      simp [Op.equalIn, run_underlying Try.underlying44, sizeOf, typeInfo, hj, hz, run_sameAddr_other w hne ha hb]
    simp [Op.equal, Op.maxDepth, g 9999, h]
theorem find_seen {w : World} {b : Nat} {cb : Array Value} {tb : TypeId} (hb : Blk w b cb tb) : ∀ (es : List MapEntry) (ks : List Nat) (i : Nat), es.map (fun e => (e.key, e.val)) = ks.map (fun b => (Value.pointer (some ⟨b, 0, none⟩), Value.agg #[])) → (∀ k ∈ ks, ∃ cs t, Blk w k cs t) →
    (b ∈ ks → ∃ j, (Instr.findAsking 44 (.pointer (some ⟨b, 0, none⟩)) es i).run Try.prog w = .ok (some (j, .agg #[])) w) ∧
    (b ∉ ks → (Instr.findAsking 44 (.pointer (some ⟨b, 0, none⟩)) es i).run Try.prog w = .ok none w) := by
  intro es
  induction es with
  | nil =>
    intro ks i h _
    cases ks with
    | nil => exact ⟨fun g => absurd g (by simp), fun _ => rfl⟩
    | cons k ks => cases h
  | cons e es ih =>
    intro ks i h hc
    cases ks with
    | nil => cases h
    | cons k ks =>
      simp only [List.map_cons, List.cons.injEq, Prod.mk.injEq] at h
      obtain ⟨⟨h1, h2⟩, h3⟩ := h
      obtain ⟨i1, i2⟩ := ih ks (i + 1) h3 fun x hx => hc x (by simp [hx])
      obtain ⟨cs, tk, hk⟩ := hc k (by simp)
      have hq := knot_ptr_eq hb hk
      by_cases hbk : b = k
      · subst hbk
        rw [decide_eq_true rfl] at hq
        refine ⟨fun _ => ⟨i, ?_⟩, fun g => absurd (by simp) g⟩
        unfold Instr.findAsking
        simp [h1, h2, hq, go_sem]
      · rw [decide_eq_false hbk] at hq
        have e1 : (Instr.findAsking 44 (.pointer (some ⟨b, 0, none⟩)) (e :: es) i).run Try.prog w = (Instr.findAsking 44 (.pointer (some ⟨b, 0, none⟩)) es (i + 1)).run Try.prog w := by
          conv => lhs; unfold Instr.findAsking
          simp [h1, hq, go_sem]
        refine ⟨fun g => ?_, fun g => ?_⟩
        · obtain ⟨j, hj⟩ := i1 (by simpa [hbk] using g)
          exact ⟨j, e1.trans hj⟩
        · exact e1.trans (i2 (fun q => g (by simp [q])))
theorem find_key (w : World) (b : Nat) (es : List MapEntry) : (Instr.findKey 44 (.pointer (some ⟨b, 0, none⟩)) es).run Try.prog w = (Instr.findAsking 44 (.pointer (some ⟨b, 0, none⟩)) es 0).run Try.prog w := by
  have hu : (underlying 44).run Try.prog w = .ok (.pointer 89) w := run_underlying Try.underlying44 w
  unfold Instr.findKey
  cases es with
  | nil => simp [hu, Instr.findNow, Instr.findAsking]
  | cons e es => simp [hu, Instr.findNow, Instr.sameNow]
theorem check_key (w : World) (b : Nat) (c : Bool) : (Instr.checkKey c 10000 44 (.pointer (some ⟨b, 0, none⟩))).run Try.prog w = .ok () w := by
  have hu : (underlying 44).run Try.prog w = .ok (.pointer 89) w := run_underlying Try.underlying44 w
  have h : ∀ n : Nat, (Instr.checkKey c (n + 1) 44 (.pointer (some ⟨b, 0, none⟩))).run Try.prog w = .ok () w := fun n => by simp [Instr.checkKey, hu]
  exact h 9999
theorem Seen.look {w : World} {B m : Nat} {ks : List Nat} (h : Seen w B m ks) {b : Nat} {cb : Array Value} {tb : TypeId} (hb : Blk w b cb tb) :
    (Instr.lookup 72 (.map (some m)) (.pointer (some ⟨b, 0, none⟩)) true).run Try.prog w = .ok (.tuple #[.agg #[], .bool (decide (b ∈ ks))]) w := by
  obtain ⟨⟨es, clock, h1, h2⟩, h3, h4⟩ := h
  obtain ⟨i1, i2⟩ := find_seen hb es.toList ks 0 h2 fun k hk => (h4 k hk).2
  rw [← find_key] at i2
  have hz := Try.zeroValue73 w
  by_cases g : b ∈ ks
  · obtain ⟨j, hj⟩ := i1 g
    rw [← find_key] at hj
    rw [decide_eq_true g]
    simp [Instr.lookup, run_underlying Try.underlying72, MapKept.run_getObj_map h1, check_key, hj, Result.andThen]
  · have hj := i2 g
    rw [decide_eq_false g]
    simp [Instr.lookup, run_underlying Try.underlying72, MapKept.run_getObj_map h1, check_key, hj, hz, Result.andThen]
theorem Seen.put {w : World} {B m : Nat} {ks : List Nat} (h : Seen w B m ks) {b : Nat} {cb : Array Value} {tb : TypeId} (hb : Blk w b cb tb) (hB : b < B) (g : b ∉ ks) :
    ∃ w', (Instr.mapUpdate 72 (.map (some m)) (.pointer (some ⟨b, 0, none⟩)) (.agg #[])).run Try.prog w = .ok () w' ∧ Seen w' B m (ks ++ [b]) ∧ Apart [m] w w' := by
  obtain ⟨⟨es, clock, h1, h2⟩, h3, h4⟩ := h
  have hj := (find_seen hb es.toList ks 0 h2 fun k hk => (h4 k hk).2).2 g
  rw [← find_key] at hj
  have hlt := (Array.getElem?_eq_some_iff.1 h1).1
  have ho : ∀ i, i ≠ m → (ChangeMaps.setBlock w m (.map (es.push { key := .pointer (some ⟨b, 0, none⟩), val := .agg #[], born := clock }) (clock + 1))).heap[i]? = w.heap[i]? := fun i hi => ChangeMaps.heap_setBlock_other h1 _ hi
  have hz : (ChangeMaps.setBlock w m (.map (es.push { key := .pointer (some ⟨b, 0, none⟩), val := .agg #[], born := clock }) (clock + 1))).heap.size = w.heap.size := by simp [ChangeMaps.setBlock]
  refine ⟨_, ?_, ⟨⟨_, _, ChangeMaps.heap_setBlock_same h1 _, ?_⟩, h3, fun k hk => ?_⟩, ⟨rfl, rfl, rfl, Nat.le_of_eq hz.symm, fun k hk hn => ho k fun e => hn (by simp [e])⟩⟩
  · simp [Instr.mapUpdate, run_underlying Try.underlying72, MapKept.run_getObj_map h1, check_key, hj, MapKept.run_setObj_map _ h1, Result.andThen, ChangeMaps.setBlock]
  · simp [h2]
  · rcases List.mem_append.1 hk with q | q
    · obtain ⟨g1, cs, t, g2⟩ := h4 k q
      exact ⟨g1, cs, t, (ho k (by omega)).trans g2⟩
    · rw [List.mem_singleton.1 q]
      exact ⟨hB, cb, tb, (ho b (by omega)).trans hb⟩
end Go.Proofs.Ytephlcdanokolaa
