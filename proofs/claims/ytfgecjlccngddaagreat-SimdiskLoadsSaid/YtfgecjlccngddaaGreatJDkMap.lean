/-
  Joined: DkMap.
-/
import Derived.Test.YtfgecjlccngddaaGreatRows
import Derived.Test.YtfgecjlccngddaaGreatJBase
import Derived.Maps.OwnSet
import Derived.Maps.RangeWalk
import Derived.Lib.SlMapFilter
import Derived.Sort.KeysCollected
namespace Go.Proofs.YtfgecjlccngddaaGreat
set_option linter.unusedSimpArgs false
set_option linter.unusedVariables false
open Go.RowKit
open Go.Maps (Keyed int_keyed)
set_option linter.unusedVariables false

/-- How a tape's address reads: as the number of its block. -/
def tapR : Value → Option (DataW Unit × List MemPlace)
  | .pointer (some ⟨b, 0, none⟩) => some (.lit (.int .i64 b), [])
  | .pointer none => some (.nil, [])
  | _ => none
theorem tapR_inv {v : Value} {b : Nat} {ps : List MemPlace} (h : tapR v = some (.lit (.int .i64 b), ps)) : v = .pointer (some ⟨b, 0, none⟩) := by
  unfold tapR at h
  split at h
  · simp at h
    rw [Int.natCast_inj.1 h.1]
  · simp at h
  · cases h
theorem tapR_shape {v : Value} {y : DataW Unit × List MemPlace} (h : tapR v = some y) : ∃ c : Option Addr, v = .pointer c := by
  unfold tapR at h
  split at h
  · exact ⟨_, rfl⟩
  · exact ⟨_, rfl⟩
  · cases h
theorem kInt : Keyed Tryz.prog 3 := int_keyed Tryz.underlying3
def ReadsT (D : DataW Unit) (ids : List Int) (blk : Int → Nat) : Prop :=
  (∀ i : Int, Maps.has D (.int .i64 i) = true ↔ i ∈ ids) ∧ ∀ i ∈ ids, ∀ z, D.atKey (.int .i64 i) z = .lit (.int .i64 (blk i))
/-- Block b is a map that has just these numbers, each with the block of its tape. -/
def TMap (w : World) (b : Nat) (ids : List Int) (blk : Int → Nat) : Prop :=
  ids.Nodup ∧ ∃ D, w.ownsMap Tryz.prog 3 tapR b (Maps.size D) D ∧ ReadsT D ids blk
theorem ownsMapT_size {w : World} {P : Program} {k : TypeId} {R : Value → Option (DataW Unit × List MemPlace)} {b n : Nat} {D : DataW Unit} (h : w.ownsMap P k R b n D) : w.ownsMap P k R b (Maps.size D) D := by
  obtain ⟨es, clock, hb, F, _, rfl⟩ := h
  exact ⟨es, clock, hb, F, by simp [Maps.size, length_sorted], rfl⟩
theorem TMap.lt {w : World} {b : Nat} {ids : List Int} {blk : Int → Nat} (h : TMap w b ids blk) : b < w.heap.size := by
  obtain ⟨_, D, h, _⟩ := h
  exact h.lt
theorem TMap.keep {w w' : World} {b : Nat} {ids : List Int} {blk : Int → Nat} (h : TMap w b ids blk) (hk : w'.heap[b]? = w.heap[b]?) : TMap w' b ids blk := by
  obtain ⟨hn, D, ⟨es, clock, hb, r⟩, h⟩ := h
  exact ⟨hn, D, ⟨es, clock, hk.trans hb, r⟩, h⟩
theorem TMap.isMap {w : World} {b : Nat} {ids : List Int} {blk : Int → Nat} (h : TMap w b ids blk) : ∃ es clock, w.heap[b]? = some (.map es clock) := by
  obtain ⟨hn, D, ⟨es, clock, hb, r⟩, h⟩ := h
  exact ⟨es, clock, hb⟩
theorem TMap.made (w : World) (blk : Int → Nat) : TMap (w.alloc (.map #[] 0)) w.heap.size [] blk :=
  ⟨List.nodup_nil, .map [], World.ownsMap_made _ _ _ _, fun i => by simp [Maps.has], fun i hi => absurd hi (by simp)⟩
theorem TMap.to {w : World} {b : Nat} {ids ids' : List Int} {blk blk' : Int → Nat} (h : TMap w b ids blk) (hn : ids'.Nodup) (hm : ∀ i, i ∈ ids' ↔ i ∈ ids) (hb : ∀ i ∈ ids, blk' i = blk i) : TMap w b ids' blk' := by
  obtain ⟨_, D, ho, h1, h2⟩ := h
  exact ⟨hn, D, ho, fun i => by rw [h1, hm], fun i hi z => by rw [hb i ((hm i).1 hi)]; exact h2 i ((hm i).1 hi) z⟩
def intOfL : Lit → Int
  | .int _ x => x
  | _ => 0
theorem key_int {w : World} {b n : Nat} {es : List (Lit × DataW Unit)} (hown : w.ownsMap Tryz.prog 3 tapR b n (.map es)) : ∀ p ∈ es, p.1 = .int .i64 (intOfL p.1) ∧ (Lit.int .i64 (intOfL p.1)).wf = true := by
  obtain ⟨es', hD, hk⟩ := hown.keysOf
  obtain rfl : es = es' := by simpa using hD
  intro p hp
  obtain ⟨v, hv⟩ := hk p hp
  obtain ⟨x, _, hx, hw⟩ := Maps.keyOf_int_inv Tryz.underlying3 hv
  rw [hx]
  exact ⟨rfl, hw⟩
/-- There are as many entries as numbers. -/
theorem reads_sizeT {w : World} {b n : Nat} {D : DataW Unit} (hown : w.ownsMap Tryz.prog 3 tapR b n D) {ids : List Int} {blk : Int → Nat} (h : ReadsT D ids blk) (hn : ids.Nodup) : Maps.size D = ids.length := by
  obtain ⟨es, rfl, hpw, _⟩ := hown.entries kInt
  have hk := key_int hown
  have hp : ids.Perm (es.map fun p => intOfL p.1) := by
    refine (List.perm_ext_iff_of_nodup hn ?_).2 fun x => ?_
    · refine List.pairwise_map.2 (hpw.imp_of_mem fun {p q} hp' hq' hne e => hne ?_)
      rw [(hk p hp').1, (hk q hq').1, e]
    · rw [← h.1 x, Maps.has_eq, List.any_eq_true, List.mem_map]
      constructor
      · rintro ⟨p, hp', hs⟩
        exact ⟨p, hp', by rw [WideAt.sameKey_eq hs]; rfl⟩
      · rintro ⟨p, hp', rfl⟩
        exact ⟨p, hp', by rw [(hk p hp').1]; exact WideAt.sameKey_self trivial⟩
  rw [hp.length_eq, List.length_map]
  rfl
theorem TMap.wf {w : World} {b : Nat} {ids : List Int} {blk : Int → Nat} (h : TMap w b ids blk) {i : Int} (hi : i ∈ ids) : (Lit.int .i64 i).wf = true := by
  obtain ⟨_, D, ho, h1, _⟩ := h
  obtain ⟨es, rfl, hpw, _⟩ := ho.entries kInt
  obtain ⟨p, hp, hs⟩ := List.any_eq_true.1 ((h1 i).2 hi)
  have := key_int ho p hp
  rw [WideAt.sameKey_eq hs] at this
  exact this.2
theorem keyT {i : Int} (h : (Lit.int .i64 i).wf = true) : keyOf Tryz.prog 3 (.int .i64 i) = some (.int .i64 i) := Maps.keyOf_int_mk Tryz.underlying3 h
theorem TMap.look {w : World} {b : Nat} {ids : List Int} {blk : Int → Nat} (h : TMap w b ids blk) {i : Int} (hi : i ∈ ids) :
    (Instr.lookup 63 (.map (some b)) (.int .i64 i) false).run Tryz.prog w = .ok (.pointer (some ⟨blk i, 0, none⟩)) w := by
  have hw := h.wf hi
  obtain ⟨_, D, ho, h1, h2⟩ := h
  obtain ⟨v, ps, hrun, hv⟩ := ho.lookup kInt Tryz.underlying63 (Tryz.zeroValue79 _) (zd := .nil) (zp := []) rfl (keyT hw)
  rw [h2 i hi] at hv
  rw [hrun, tapR_inv hv]
theorem TMap.len {w : World} {b : Nat} {ids : List Int} {blk : Int → Nat} (h : TMap w b ids blk) (ty : TypeId) : (Builtin.len_ #[63] ty #[.map (some b)]).run Tryz.prog w = .ok (.int .i64 ids.length) w := by
  obtain ⟨hn, D, ho, hr⟩ := h
  rw [ho.len Tryz.underlying63 ty, reads_sizeT ho hr hn]
theorem lit_ne {i j : Int} (h : i ≠ j) : (Lit.int .i64 i) ≠ .int .i64 j := fun e => h (by injection e)
theorem apart_grownT {w w' : World} {b : Nat} (h : w.grownBy w' (some b)) : Apart [b] w w' := ⟨h.os, h.tape, h.output, h.size, fun k hk hn => h.block k hk (fun e => hn (by cases e; exact List.mem_singleton.2 rfl))⟩
theorem TMap.store {w : World} {b : Nat} {ids : List Int} {blk : Int → Nat} (h : TMap w b ids blk) (hlen : ids.length ≤ 1000000) {n : Int} (hw : (Lit.int .i64 n).wf = true) (t : Nat)
    {ids' : List Int} {blk' : Int → Nat} (hn : ids'.Nodup) (hm : ∀ i, i ∈ ids' ↔ i = n ∨ i ∈ ids) (hb : blk' n = t) (hb' : ∀ i ∈ ids, i ≠ n → blk' i = blk i) :
    ∃ w', (Instr.mapUpdate 63 (.map (some b)) (.int .i64 n) (.pointer (some ⟨t, 0, none⟩))).run Tryz.prog w = .ok () w' ∧ TMap w' b ids' blk' ∧ Apart [b] w w' := by
  obtain ⟨hnd, D, ho, hr⟩ := h
  have hsz := reads_sizeT ho hr hnd
  obtain ⟨h1, h2⟩ := hr
  obtain ⟨w', hrun, hown', hg⟩ := ho.update kInt Tryz.underlying63 (by unfold maxLen; omega) (keyT hw) (val := .pointer (some ⟨t, 0, none⟩)) (d := .lit (.int .i64 t)) (ps := []) rfl
  have hmap := ho.isMap
  have hkl : WideAt.IsKeyLit (.int .i64 n) := trivial
  refine ⟨w', hrun, ⟨hn, _, ownsMapT_size hown', fun i => ?_, fun i hi z => ?_⟩, apart_grownT hg⟩
  · rw [hm i]
    by_cases g : i = n
    · subst g
      rw [Maps.has_put_same hmap hkl]
      simp
    · rw [Maps.has_put_other (lit_ne g), h1 i]
      simp [g]
  · by_cases g : i = n
    · subst g
      rw [Maps.atKey_put_same hmap hkl, hb]
    · have hi' := ((hm i).1 hi).resolve_left g
      rw [Maps.atKey_put_other (lit_ne g), h2 i hi' z, hb' i hi' g]
/-- What is struck, by the numbers alone. -/
def pdT (keep : Int → Bool) : Lit → DataW Unit → Bool
  | .int _ i, _ => !keep i
  | _, _ => false
theorem reads_strike {w : World} {b n : Nat} {D : DataW Unit} (hown : w.ownsMap Tryz.prog 3 tapR b n D) {ids : List Int} {blk : Int → Nat} (h : ReadsT D ids blk) (keep : Int → Bool) : ReadsT (Lib.deleteFuncD (pdT keep) D) (ids.filter keep) blk := by
  obtain ⟨es, rfl, hpw, _⟩ := hown.entries kInt
  obtain ⟨h1, h2⟩ := h
  have e : ∀ (i : Int) (p : Lit × DataW Unit), p.1.sameKey (.int .i64 i) = true → (!pdT keep p.1 p.2) = keep i := fun i p hp => by
    rw [WideAt.sameKey_eq hp]; simp [pdT]
  refine ⟨fun i => ?_, fun i hi z => ?_⟩
  · rw [List.mem_filter, ← h1 i]
    show Maps.has (.map (es.filter fun p => !pdT keep p.1 p.2)) _ = true ↔ _
    rw [Maps.has_eq, Maps.has_eq, List.any_eq_true, List.any_eq_true]
    constructor
    · rintro ⟨p, hp, hs⟩
      obtain ⟨hp, hk⟩ := List.mem_filter.1 hp
      exact ⟨⟨p, hp, hs⟩, by rw [← e i p hs]; exact hk⟩
    · rintro ⟨⟨p, hp, hs⟩, hk⟩
      exact ⟨p, List.mem_filter.2 ⟨hp, by rw [e i p hs]; exact hk⟩, hs⟩
  · obtain ⟨hi, hk⟩ := List.mem_filter.1 hi
    rw [← h2 i hi z]
    show (DataW.map (es.filter fun p => !pdT keep p.1 p.2)).atKey _ _ = _
    have hf := Maps.find_filter_keep (f := fun p : Lit × DataW Unit => p.1.sameKey (.int .i64 i)) (g := fun p : Lit × DataW Unit => !pdT keep p.1 p.2) (fun p hp => (e i p hp).trans hk) es
    unfold DataW.atKey
    simp only [hf]
/-- A range over the map, under way: the numbers that are still to come. -/
def RngT (w : World) (b r : Nat) (ids : List Int) (blk : Int → Nat) (todo : Int → Bool) (cnt : Nat) : Prop :=
  ids.Nodup ∧ ∃ n D left, w.ranges Tryz.prog 3 tapR b r n D left cnt ∧ ReadsT D ids blk ∧ ∀ i, left (.int .i64 i) = todo i
theorem RngT.left_eq {w : World} {b r : Nat} {ids : List Int} {blk : Int → Nat} {todo : Int → Bool} {cnt : Nat} (h : RngT w b r ids blk todo cnt) : w.rangeLeft b r = cnt := by
  obtain ⟨_, n, D, left, h, _⟩ := h
  exact h.left_eq
theorem RngT.owns {w : World} {b r : Nat} {ids : List Int} {blk : Int → Nat} {todo : Int → Bool} {cnt : Nat} (h : RngT w b r ids blk todo cnt) : TMap w b ids blk := by
  obtain ⟨hn, n, D, left, h, hr, _⟩ := h
  exact ⟨hn, D, ownsMapT_size h.owns, hr⟩
theorem RngT.lt {w : World} {b r : Nat} {ids : List Int} {blk : Int → Nat} {todo : Int → Bool} {cnt : Nat} (h : RngT w b r ids blk todo cnt) : r < w.heap.size := by
  obtain ⟨_, n, D, left, h, _⟩ := h
  exact h.lt
theorem RngT.apart {w w' : World} {b r : Nat} {ids : List Int} {blk : Int → Nat} {todo : Int → Bool} {cnt : Nat} {S : List Nat} (h : RngT w b r ids blk todo cnt) (ha : Apart S w w') (hb : b ∉ S) (hr : r ∉ S) : RngT w' b r ids blk todo cnt := by
  have h1 := h.owns.lt
  have h2 := h.lt
  obtain ⟨hn, n, D, left, ⟨es, clock, since, seen, c0, g1, g2, g3, g4, g5, g6⟩, h⟩ := h
  exact ⟨hn, n, D, left, ⟨es, clock, since, seen, c0, (ha.block b h1 hb).trans g1, g2, g3, g4, (ha.block r h2 hr).trans g5, g6⟩, h⟩
section
variable {w : World} {ops : Array Oper} {rest : List Oper} {o : Oper} {a : Act} {Q : Exit → Act → World → Prop}
theorem wpList_range_tapes (hg : o.guard = none) (m : Operand) (hop : o.op = Op.range 63 m) (b : Nat) (ids : List Int) (blk : Int → Nat)
    (hm : a.eval m = .map (some b)) (hown : TMap w b ids blk)
    (hK : ∀ w', RngT w' b w.heap.size ids blk (fun i => decide (i ∈ ids)) ids.length → Below w.heap.size w w' → w'.heap.size = w.heap.size + 1 → wpList Tryz.prog ops Q rest (a.put o.dst (.pointer (some ⟨w.heap.size, 0, none⟩))) w') :
    wpList Tryz.prog ops Q (o :: rest) a w := by
  obtain ⟨hn, D, ho, hr⟩ := hown
  have hsz := reads_sizeT ho hr hn
  refine wpList_range_own w hg m 63 hop 3 79 kInt Tryz.underlying63 tapR b _ D hm ho fun w' h1 h2 h3 => ?_
  refine hK w' ⟨hn, _, D, _, by rw [← hsz]; exact h1, hr, fun i => ?_⟩ ⟨h2.os, h2.tape, h2.output, h2.size, fun i hi => h2.block i hi (by simp)⟩ h3
  rw [Bool.eq_iff_iff, hr.1 i, decide_eq_true_iff]
theorem wpList_next_tapes (hg : o.guard = none) (it : Operand) (hop : o.op = Op.next it false) (b r : Nat) (ids : List Int) (blk : Int → Nat) (todo : Int → Bool) (cnt : Nat)
    (hit : a.eval it = .pointer (some ⟨r, 0, none⟩)) (h : RngT w b r ids blk todo cnt)
    (hDone : cnt = 0 → (∀ i, todo i = false) → wpList Tryz.prog ops Q rest (a.put o.dst (.tuple #[.bool false])) w)
    (hMore : ∀ (x : Int) (w' : World) (cnt' : Nat), x ∈ ids → todo x = true → RngT w' b r ids blk (fun i => todo i && !decide (i = x)) cnt' → cnt' < cnt → Apart [r] w w' → w'.heap.size = w.heap.size →
      (Instr.entry (.pointer (some ⟨r, 0, none⟩))).run Tryz.prog w' = .ok (.tuple #[.int .i64 x, .pointer (some ⟨blk x, 0, none⟩)]) w' → wpList Tryz.prog ops Q rest (a.put o.dst (.tuple #[.bool true, .int .i64 x, .pointer (some ⟨blk x, 0, none⟩)])) w') :
    wpList Tryz.prog ops Q (o :: rest) a w := by
  obtain ⟨hn, n, D, left, hrg, hr, hl⟩ := h
  refine wpList_next_ranges w hg it hop 3 kInt tapR (fun x : Int => .int .i64 x) (fun c : Option Addr => .pointer c) (fun key kl hkey => by obtain ⟨x, rfl, _⟩ := Maps.keyOf_int_inv Tryz.underlying3 hkey; exact ⟨x, rfl⟩) (fun v y hv => tapR_shape hv) b r n D left cnt hit hrg (fun h0 hl0 => hDone h0 fun i => (hl i).symm.trans (hl0 _)) ?_
  intro x c kl y w' cnt' hkey hlk hv hat hrg' hlt hgr hsz hen
  obtain ⟨x', ex, rfl, hwx⟩ := Maps.keyOf_int_inv Tryz.underlying3 hkey
  obtain rfl : x = x' := by simpa using ex
  have hx : x ∈ ids := (hr.1 x).1 (Maps.has_true_of_atKey hat)
  have hy : y.1 = .lit (.int .i64 (blk x)) := (hat .nil).symm.trans (hr.2 x hx .nil)
  obtain ⟨y1, ps⟩ := y
  simp only at hy
  subst hy
  obtain rfl : c = some ⟨blk x, 0, none⟩ := by simpa using tapR_inv hv
  refine hMore x w' cnt' hx ((hl x).symm.trans hlk) ⟨hn, n, D, _, hrg', hr, fun i => ?_⟩ hlt (apart_grownT hgr) hsz hen
  rw [hl i]
  by_cases g : i = x
  · subst g; simp [Lit.sameKey]
  · simp [Lit.sameKey, g]
end
end Go.Proofs.YtfgecjlccngddaaGreat
