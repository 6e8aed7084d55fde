/-
  Joined: FoldMap.
-/
import Derived.Test.YtfgecjlccngddaaGreatJFoldHist
import Derived.Test.YtfgecjlccngddaaGreatJBase
import Derived.Test.YtfgecjlccngddaaGreatJFoldShelf
import Derived.Maps.OwnSet
import Derived.Sort.KeysCollected
import Derived.StringKeys
namespace Go.Proofs.YtfgecjlccngddaaGreat
set_option linter.unusedSimpArgs false
set_option linter.unusedVariables false
open Go.RowKit
open Go.Maps (Keyed string_keyed)
open Go.WideMaps
set_option linter.unusedVariables false

def Reads (D : DataW Unit) (l : List Ent) : Prop :=
  (∀ s : ByteArray, Maps.has D (.string s.data.toList) = (findE l s).isSome) ∧ ∀ (s : ByteArray) (n : Int), findE l s = some n → ∀ z, D.atKey (.string s.data.toList) z = .lit (.int .i64 n)
/-- Block b is a map that has just these names, with these numbers. -/
def MapE (w : World) (b : Nat) (l : List Ent) : Prop :=
  ∃ D : DataW Unit, w.ownsMap Tryz.prog 9 (plainElem Tryz.prog 3) b (Maps.size D) D ∧ Reads D l
theorem ownsMap_size {w : World} {P : Program} {k : TypeId} {R : Value → Option (DataW Unit × List MemPlace)} {b n : Nat} {D : DataW Unit} (h : w.ownsMap P k R b n D) : w.ownsMap P k R b (Maps.size D) D := by
  obtain ⟨es, clock, hb, F, _, rfl⟩ := h
  exact ⟨es, clock, hb, F, by simp [Maps.size, length_sorted], rfl⟩
theorem strKey {s : ByteArray} (hs : s.size ≤ maxLen) : keyOf Tryz.prog 9 (.string s) = some (.string s.data.toList) := keyOf_string_mk Tryz.underlying9 hs
theorem data_inj {s t : ByteArray} (h : s ≠ t) : (Lit.string s.data.toList) ≠ .string t.data.toList := fun g => h (str_ext (by injection g))
theorem MapE.lt {w : World} {b : Nat} {l : List Ent} (h : MapE w b l) : b < w.heap.size := by
  obtain ⟨D, h, _⟩ := h
  exact h.lt
theorem MapE.keep {w w' : World} {b : Nat} {l : List Ent} (h : MapE w b l) (hk : w'.heap[b]? = w.heap[b]?) : MapE w' b l := by
  obtain ⟨D, ⟨es, clock, hb, r⟩, h⟩ := h
  exact ⟨D, ⟨es, clock, hk.trans hb, r⟩, h⟩
theorem MapE.map {w : World} {b : Nat} {l : List Ent} (h : MapE w b l) : ∃ es clock, w.heap[b]? = some (.map es clock) := by
  obtain ⟨D, ⟨es, clock, hb, r⟩, h⟩ := h
  exact ⟨es, clock, hb⟩
theorem MapE.made (w : World) : MapE (w.alloc (.map #[] 0)) w.heap.size [] :=
  ⟨.map [], World.ownsMap_made _ _ _ _, fun s => rfl, fun s n h => by cases h⟩
theorem has_string {D : DataW Unit} {l : List Ent} (h : Reads D l) (x : List UInt8) : x ∈ l.map (fun e => e.name.data.toList) ↔ Maps.has D (.string x) = true := by
  have := h.1 ⟨x.toArray⟩
  rw [show (⟨x.toArray⟩ : ByteArray).data.toList = x from rfl] at this
  rw [this, findE_in, List.mem_map]
  constructor
  · rintro ⟨e, he, hx⟩
    exact ⟨e, he, str_ext hx⟩
  · rintro ⟨e, he, hx⟩
    exact ⟨e, he, by rw [hx]⟩
/-- The keys of what it reads as are the names. -/
theorem reads_keys {w : World} {b n : Nat} {D : DataW Unit} (hown : w.ownsMap Tryz.prog 9 (plainElem Tryz.prog 3) b n D) {l : List Ent} (h : Reads D l) (hl : rise l) :
    (l.map (fun e => e.name.data.toList)).Perm (strKeys D) := by
  have K := string_keyed Tryz.underlying9
  obtain ⟨es, hD, hpw, _⟩ := hown.entries K
  obtain ⟨es', hD', hko⟩ := hown.keysOf
  obtain rfl : es = es' := by rw [hD] at hD'; simpa using hD'
  subst hD
  exact perm_strKeys hpw (fun p hp => by obtain ⟨v, hv⟩ := hko p hp; obtain ⟨x, _, hx, _⟩ := Maps.keyOf_str Tryz.underlying9 hv; exact ⟨x, hx⟩) (rise_nodup hl) (has_string h)
theorem strKeys_len {w : World} {b n : Nat} {D : DataW Unit} (hown : w.ownsMap Tryz.prog 9 (plainElem Tryz.prog 3) b n D) : (strKeys D).length = Maps.size D := by
  obtain ⟨es, rfl, _⟩ := hown.entries (string_keyed Tryz.underlying9)
  simp [strKeys, Maps.size]
theorem reads_size {w : World} {b n : Nat} {D : DataW Unit} (hown : w.ownsMap Tryz.prog 9 (plainElem Tryz.prog 3) b n D) {l : List Ent} (h : Reads D l) (hl : rise l) : Maps.size D = l.length := by
  rw [← strKeys_len hown, ← (reads_keys hown h hl).length_eq, List.length_map]
theorem MapE.look {w : World} {b : Nat} {l : List Ent} (h : MapE w b l) {s : ByteArray} (hs : s.size ≤ maxLen) :
    (Instr.lookup 115 (.map (some b)) (.string s) false).run Tryz.prog w = .ok (.int .i64 ((findE l s).getD 0)) w := by
  obtain ⟨D, hown, hr⟩ := h
  obtain ⟨c, hrun, hat, hw⟩ := hown.lookup_int (string_keyed Tryz.underlying9) Tryz.underlying115 Tryz.underlying3 (Tryz.zeroValue3 _) (strKey hs)
  rw [hrun]
  cases hf : findE l s with
  | none =>
    have h0 := hr.1 s
    rw [hf] at h0
    rw [Maps.atKey_of_not_has h0] at hat
    obtain rfl : c = 0 := by simpa using hat.symm
    rfl
  | some n =>
    rw [hr.2 s n hf] at hat
    obtain rfl : n = c := by simpa using hat
    rfl
theorem MapE.look_ok {w : World} {b : Nat} {l : List Ent} (h : MapE w b l) {s : ByteArray} (hs : s.size ≤ maxLen) :
    (Instr.lookup 115 (.map (some b)) (.string s) true).run Tryz.prog w = .ok (.tuple #[.int .i64 ((findE l s).getD 0), .bool (findE l s).isSome]) w := by
  obtain ⟨D, hown, hr⟩ := h
  obtain ⟨v, ps, hrun, hv⟩ := hown.look_ok (string_keyed Tryz.underlying9) Tryz.underlying115 (Tryz.zeroValue3 _) (zd := .lit (.int .i64 0)) (zp := []) (plainElem_int Tryz.underlying3 (by decide)) (strKey hs)
  obtain ⟨c, rfl, hc, hw⟩ := plainElem_int_inv Tryz.underlying3 hv
  have hat : D.atKey (.string s.data.toList) (.lit (.int .i64 0)) = .lit (.int .i64 c) := congrArg Prod.fst hc
  rw [hrun, hr.1 s]
  cases hf : findE l s with
  | none =>
    have h0 := hr.1 s
    rw [hf] at h0
    rw [Maps.atKey_of_not_has h0] at hat
    obtain rfl : c = 0 := by simpa using hat.symm
    rfl
  | some n =>
    rw [hr.2 s n hf] at hat
    obtain rfl : n = c := by simpa using hat
    rfl
theorem apart_grown {w w' : World} {b : Nat} (h : w.grownBy w' (some b)) : Apart [b] w w' := ⟨h.os, h.tape, h.output, h.size, fun k hk hn => h.block k hk (fun e => hn (by cases e; exact List.mem_singleton.2 rfl))⟩
theorem wf_int {n : Int} (h0 : -9223372036854775808 ≤ n) (h1 : n ≤ 9223372036854775807) : (Lit.int .i64 n).wf = true := by
  simp only [Lit.wf, Bool.and_eq_true, decide_eq_true_eq]
  exact ⟨h0, h1⟩
theorem MapE.store {w : World} {b : Nat} {l : List Ent} (h : MapE w b l) (hl : rise l) (hn : l.length ≤ 1000000) {s : ByteArray} (hs : s.size ≤ maxLen) {n : Int} (h0 : -9223372036854775808 ≤ n) (h1 : n ≤ 9223372036854775807)
    {l' : List Ent} (hl' : ∀ t, findE l' t = if s = t then some n else findE l t) :
    ∃ w', (Instr.mapUpdate 115 (.map (some b)) (.string s) (.int .i64 n)).run Tryz.prog w = .ok () w' ∧ MapE w' b l' ∧ Apart [b] w w' := by
  obtain ⟨D, hown, hr⟩ := h
  have hsz := reads_size hown hr hl
  obtain ⟨w', hrun, hown', hg⟩ := hown.update (string_keyed Tryz.underlying9) Tryz.underlying115 (by unfold maxLen; omega) (strKey hs) (plainElem_int Tryz.underlying3 (wf_int h0 h1))
  have hmap := hown.isMap
  have hkl : WideAt.IsKeyLit (.string s.data.toList) := (string_keyed Tryz.underlying9).key (strKey hs)
  refine ⟨w', hrun, ⟨_, ownsMap_size hown', fun t => ?_, fun t m ht z => ?_⟩, apart_grown hg⟩
  · rw [hl' t]
    by_cases g : s = t
    · subst g
      rw [if_pos rfl, Maps.has_put_same hmap hkl]
      rfl
    · rw [if_neg g, Maps.has_put_other (data_inj (fun e => g e.symm))]
      exact hr.1 t
  · rw [hl' t] at ht
    by_cases g : s = t
    · subst g
      rw [if_pos rfl] at ht
      obtain rfl : n = m := Option.some.inj ht
      exact Maps.atKey_put_same hmap hkl _ _
    · rw [if_neg g] at ht
      rw [Maps.atKey_put_other (data_inj (fun e => g e.symm))]
      exact hr.2 t m ht z
theorem MapE.drop {w : World} {b : Nat} {l : List Ent} (h : MapE w b l) {s : ByteArray} (hs : s.size ≤ maxLen) {l' : List Ent} (hl' : ∀ t, findE l' t = if s = t then none else findE l t) (ty : TypeId) :
    ∃ w', (Builtin.delete_ #[115, 9] ty #[.map (some b), .string s]).run Tryz.prog w = .ok (.tuple #[]) w' ∧ MapE w' b l' ∧ Apart [b] w w' := by
  obtain ⟨D, hown, hr⟩ := h
  obtain ⟨w', hrun, hown', hg⟩ := hown.drop (string_keyed Tryz.underlying9) Tryz.underlying115 (strKey hs) ty
  refine ⟨w', hrun, ⟨_, ownsMap_size hown', fun t => ?_, fun t m ht z => ?_⟩, apart_grown hg.grown⟩
  · rw [hl' t]
    by_cases g : s = t
    · subst g
      rw [if_pos rfl, Maps.has_del_same]
      rfl
    · rw [if_neg g, Maps.has_del_other (data_inj (fun e => g e.symm))]
      exact hr.1 t
  · rw [hl' t] at ht
    by_cases g : s = t
    · rw [if_pos g] at ht
      cases ht
    · rw [if_neg g] at ht
      rw [Maps.atKey_del_other (data_inj (fun e => g e.symm))]
      exact hr.2 t m ht z
theorem foclone_any {w : World} {b : Nat} {l : List Ent} (h : MapE w b l) :
    Calls Tryz.prog 86 #[.map (some b)] w fun e w' => e = .returned (.map (some w.heap.size)) ∧ MapE w' w.heap.size l ∧ w'.heap.size = w.heap.size + 1 ∧ Below w.heap.size w w' := by
  obtain ⟨D, ⟨es, clock, hb, F, hs, hD⟩, hr⟩ := h
  refine (AnyW.maps_Clone Tryz.foMap b es clock w hb).mono ?_
  rintro e w' ⟨rfl, rfl⟩
  exact ⟨rfl, ⟨D, ⟨es, clock, (MapKept.heap_alloc w _).1, F, hs, hD⟩, hr⟩, by simp, (Below.refl _ w).alloc (Nat.le_refl _) _⟩
end Go.Proofs.YtfgecjlccngddaaGreat
