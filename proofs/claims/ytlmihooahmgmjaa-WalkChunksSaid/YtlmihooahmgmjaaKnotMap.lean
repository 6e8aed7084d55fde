/-
  A map whose keys are addresses: what is looked up, what is put.
-/
import Derived.Test.YtlmihooahmgmjaaProg
import Derived.Test.YtlmihooahmgmjaaJCells
import Derived.Test.YtlmihooahmgmjaaObj
import Derived.Laws.Pointers
import Derived.LaidEqlPtr
import Derived.Maps.Own
namespace Go.Proofs.Ytlmihooahmgmjaa
open Go.RowKit
set_option linter.unusedVariables false
set_option linter.unusedSimpArgs false

/-- Block m is a map that has these keys, each the address of a knot that lies below B. -/
def Seen (w : World) (B m : Nat) (ks : List Nat) : Prop :=
  (∃ es clock, w.heap[m]? = some (.map es clock) ∧ es.toList.map (fun e => (e.key, e.val)) = ks.map fun b => (Value.pointer (some ⟨b, 0, none⟩), Value.agg #[])) ∧ B ≤ m ∧ ∀ k ∈ ks, k < B ∧ ∃ cs t, Blk w k cs t
theorem Seen.lt {w : World} {B m : Nat} {ks : List Nat} (h : Seen w B m ks) : m < w.heap.size := by
  obtain ⟨⟨es, clock, h1, h2⟩, _⟩ := h
  exact (Array.getElem?_eq_some_iff.1 h1).1
theorem Seen.keep {w w' : World} {B m : Nat} {ks : List Nat} (h : Seen w B m ks) (hk : w'.heap[m]? = w.heap[m]?) (hb : ∀ i, i < B → w'.heap[i]? = w.heap[i]?) : Seen w' B m ks := by
  obtain ⟨⟨es, clock, h1, h2⟩, h3, h4⟩ := h
  refine ⟨⟨es, clock, hk.trans h1, h2⟩, h3, fun k hm => ?_⟩
  obtain ⟨g1, cs, t, g2⟩ := h4 k hm
  exact ⟨g1, cs, t, (hb k g1).trans g2⟩
theorem Seen.on {w w' : World} {B m : Nat} {ks : List Nat} (h : Seen w B m ks) (hb : Below w.heap.size w w') : Seen w' B m ks :=
  h.keep (hb.block m h.lt) fun i hi => hb.block i (Nat.lt_trans (Nat.lt_of_lt_of_le hi h.2.1) h.lt)
theorem Seen.made (w : World) : Seen (w.alloc (.map #[] 0)) w.heap.size w.heap.size [] := ⟨⟨#[], 0, (MapKept.heap_alloc w _).1, rfl⟩, Nat.le_refl _, fun k hk => absurd hk (by simp)⟩
theorem knot_info16 : ∃ j, Try.prog.info? 76 = some j ∧ j.size ≠ 0 := by
  have h : (Try.prog.info? 76).map (fun i => decide (i.size = 0)) = some false := by kernel_rfl
  cases g : Try.prog.info? 76 with
  | none => rw [g] at h; cases h
  | some j =>
    rw [g] at h
    exact ⟨j, rfl, by simpa using h⟩
theorem knot_ptr_eq {w : World} {a b : Nat} {ca cb : Array Value} {ta tb : TypeId} (ha : Blk w a ca ta) (hb : Blk w b cb tb) :
    (Op.equal 42 (.pointer (some ⟨a, 0, none⟩)) (.pointer (some ⟨b, 0, none⟩))).run Try.prog w = .ok (decide (a = b)) w := by
  obtain ⟨j, hj, hz⟩ := knot_info16
  by_cases h : a = b
  · subst h
    have g : ∀ d : Nat, (Op.equalIn (d + 1) 42 (.pointer (some ⟨a, 0, none⟩)) (.pointer (some ⟨a, 0, none⟩))).run Try.prog w = .ok true w := fun d => by
      simp [Op.equalIn, run_underlying Try.underlying42, sizeOf, typeInfo, hj, run_sameAddr_same]
    simp [Op.equal, Op.maxDepth, g 9999]
  · have hne : (⟨a, 0, none⟩ : Addr) ≠ ⟨b, 0, none⟩ := fun e => h (by injection e)
    have g : ∀ d : Nat, (Op.equalIn (d + 1) 42 (.pointer (some ⟨a, 0, none⟩)) (.pointer (some ⟨b, 0, none⟩))).run Try.prog w = .ok false w := fun d => by
      simp [Op.equalIn, run_underlying Try.underlying42, sizeOf, typeInfo, hj, hz, run_sameAddr_other w hne ha hb]
    simp [Op.equal, Op.maxDepth, g 9999, h]
theorem find_seen {w : World} {b : Nat} {cb : Array Value} {tb : TypeId} (hb : Blk w b cb tb) : ∀ (es : List MapEntry) (ks : List Nat) (i : Nat), es.map (fun e => (e.key, e.val)) = ks.map (fun b => (Value.pointer (some ⟨b, 0, none⟩), Value.agg #[])) → (∀ k ∈ ks, ∃ cs t, Blk w k cs t) →
    (b ∈ ks → ∃ j, (Instr.findAsking 42 (.pointer (some ⟨b, 0, none⟩)) es i).run Try.prog w = .ok (some (j, .agg #[])) w) ∧
    (b ∉ ks → (Instr.findAsking 42 (.pointer (some ⟨b, 0, none⟩)) es i).run Try.prog w = .ok none w) := by
  intro es
  induction es with
  | nil =>
    intro ks i h _
    cases ks with
    | nil => exact ⟨fun g => absurd g (by simp), fun _ => rfl⟩
    | cons k ks => cases h
  | cons e es ih =>
    intro ks i h hc
    cases ks with
    | nil => cases h
    | cons k ks =>
      simp only [List.map_cons, List.cons.injEq, Prod.mk.injEq] at h
      obtain ⟨⟨h1, h2⟩, h3⟩ := h
      obtain ⟨i1, i2⟩ := ih ks (i + 1) h3 fun x hx => hc x (by simp [hx])
      obtain ⟨cs, tk, hk⟩ := hc k (by simp)
      have hq := knot_ptr_eq hb hk
      by_cases hbk : b = k
      · subst hbk
        rw [decide_eq_true rfl] at hq
        refine ⟨fun _ => ⟨i, ?_⟩, fun g => absurd (by simp) g⟩
        unfold Instr.findAsking
        simp [h1, h2, hq, go_sem]
      · rw [decide_eq_false hbk] at hq
        have e1 : (Instr.findAsking 42 (.pointer (some ⟨b, 0, none⟩)) (e :: es) i).run Try.prog w = (Instr.findAsking 42 (.pointer (some ⟨b, 0, none⟩)) es (i + 1)).run Try.prog w := by
          conv => lhs; unfold Instr.findAsking
          simp [h1, hq, go_sem]
        refine ⟨fun g => ?_, fun g => ?_⟩
        · obtain ⟨j, hj⟩ := i1 (by simpa [hbk] using g)
          exact ⟨j, e1.trans hj⟩
        · exact e1.trans (i2 (fun q => g (by simp [q])))
theorem find_key (w : World) (b : Nat) (es : List MapEntry) : (Instr.findKey 42 (.pointer (some ⟨b, 0, none⟩)) es).run Try.prog w = (Instr.findAsking 42 (.pointer (some ⟨b, 0, none⟩)) es 0).run Try.prog w := by
  have hu : (underlying 42).run Try.prog w = .ok (.pointer 76) w := run_underlying Try.underlying42 w
  unfold Instr.findKey
  cases es with
  | nil => simp [hu, Instr.findNow, Instr.findAsking]
  | cons e es => simp [hu, Instr.findNow, Instr.sameNow]
theorem check_key (w : World) (b : Nat) (c : Bool) : (Instr.checkKey c 10000 42 (.pointer (some ⟨b, 0, none⟩))).run Try.prog w = .ok () w := by
  have hu : (underlying 42).run Try.prog w = .ok (.pointer 76) w := run_underlying Try.underlying42 w
  have h : ∀ n : Nat, (Instr.checkKey c (n + 1) 42 (.pointer (some ⟨b, 0, none⟩))).run Try.prog w = .ok () w := fun n => by simp [Instr.checkKey, hu]
  exact h 9999
end Go.Proofs.Ytlmihooahmgmjaa
