/-
  Knots in memory: seven cells of a block, the row of what stands below; what is kept while other memory is made.
-/
import Derived.Test.YtephlcdanokolaaKnotMath
import Derived.Test.YtephlcdanokolaaStrs
import Derived.Test.YtephlcdanokolaaBlk
import Derived.Test.YtephlcdanokolaaObj
import Derived.Test.YtephlcdanokolaaChunkDev
namespace Go.Proofs.Ytephlcdanokolaa
open Go.RowKit
set_option linter.unusedVariables false

/-- The address of a knot. -/
abbrev pv (b : Nat) : Value := .pointer (some ⟨b, 0, none⟩)
/-- The cells of a knot: levels, count, first, last, kids. -/
def kcs (lv : Int) (s f l : ByteArray) (kv : Value) : Array Value := #[.int .i64 lv, .int .i64 s.size, .int .i64 (runes s.data.toList), .int .i64 (lines s.data.toList), .string f, .string l, kv]
/-- What stands below: where it lies, and its chunks. -/
structure Kid where
  b : Nat
  L : List ByteArray
def flat (K : List Kid) : List ByteArray := (K.map Kid.L).flatten
def ptrs (K : List Kid) : List Value := K.map fun k => pv k.b
theorem ptrs_len (K : List Kid) : (ptrs K).length = K.length := by simp [ptrs]
theorem flat_app (A B : List Kid) : flat (A ++ B) = flat A ++ flat B := by simp [flat]
theorem flat_one (k : Kid) : flat [k] = k.L := by simp [flat]
/-- A row of values, from some place of a block on. -/
def PRow (w : World) (g o : Nat) (l : List Value) : Prop := g < w.heap.size ∧ ∀ j (h : j < l.length), w.cell? ⟨g, o + j, none⟩ = some l[j]
theorem PRow.keep {w w' : World} {g o : Nat} {l : List Value} (h : PRow w g o l) (hs : w.heap.size ≤ w'.heap.size) (hk : w'.heap[g]? = w.heap[g]?) : PRow w' g o l :=
  ⟨Nat.lt_of_lt_of_le h.1 hs, fun j hj => (World.cell?_of_block (w := w) hk).trans (h.2 j hj)⟩
theorem PRow.on {w w' : World} {g o : Nat} {l : List Value} (h : PRow w g o l) (hb : Below w.heap.size w w') : PRow w' g o l := h.keep hb.size (hb.block g h.1)
theorem PRow.sub {w : World} {g o : Nat} {l : List Value} (h : PRow w g o l) (n : Nat) : PRow w g (o + n) (l.drop n) :=
  ⟨h.1, fun j hj => by
    rw [List.length_drop] at hj
    rw [List.getElem_drop, Nat.add_assoc]
    exact h.2 (n + j) (by omega)⟩
theorem PRow.pre {w : World} {g o : Nat} {l : List Value} (h : PRow w g o l) (n : Nat) : PRow w g o (l.take n) :=
  ⟨h.1, fun j hj => by
    rw [List.length_take] at hj
    rw [List.getElem_take]
    exact h.2 j (by omega)⟩
/-- A knot of that height, with these chunks, in blocks of B. -/
def KnotW (w : World) (B : Nat → Prop) : Nat → Nat → List ByteArray → Prop
  | 0, b, L => B b ∧ ∃ s, L = [s] ∧ fitsP s ∧ Blk w b (kcs 1 s s s (.slice none 0 0)) 89
  | h + 1, b, L => B b ∧ ∃ (K : List Kid) (g c : Nat), 2 ≤ K.length ∧ K.length ≤ 8 ∧ K.length ≤ c ∧ (∀ k ∈ K, KnotW w B h k.b k.L) ∧ L = flat K ∧ B g ∧ PRow w g 0 (ptrs K) ∧ Blk w b (kcs (h + 2) (wholeL L) (fstL L) (lstL L) (.slice (some ⟨g, 0, none⟩) K.length c)) 89
/-- A knot over these. -/
structure KnotN (w : World) (B : Nat → Prop) (h b : Nat) (K : List Kid) (g c : Nat) : Prop where
  two : 2 ≤ K.length
  eight : K.length ≤ 8
  cap : K.length ≤ c
  kids : ∀ k ∈ K, KnotW w B h k.b k.L
  row : PRow w g 0 (ptrs K)
  blk : Blk w b (kcs (h + 2) (wholeL (flat K)) (fstL (flat K)) (lstL (flat K)) (.slice (some ⟨g, 0, none⟩) K.length c)) 89
theorem KnotW.node {w : World} {B : Nat → Prop} {h b : Nat} {L : List ByteArray} (k : KnotW w B (h + 1) b L) : ∃ K g c, KnotN w B h b K g c ∧ L = flat K ∧ B g := by
  obtain ⟨h1, K, g, c, h2, h3, h4, h5, rfl, h6, h7, h8⟩ := k
  exact ⟨K, g, c, ⟨h2, h3, h4, h5, h7, h8⟩, rfl, h6⟩
theorem KnotW.lt {w : World} {B : Nat → Prop} : ∀ {h b : Nat} {L : List ByteArray}, KnotW w B h b L → B b
  | 0, _, _, k => k.1
  | _ + 1, _, _, k => k.1
theorem KnotW.keep {w w' : World} {B : Nat → Prop} (hs : w.heap.size ≤ w'.heap.size) (hk : ∀ i, B i → w'.heap[i]? = w.heap[i]?) : ∀ {h b : Nat} {L : List ByteArray}, KnotW w B h b L → KnotW w' B h b L
  | 0, b, L, ⟨hb, s, e, hf, hB⟩ => ⟨hb, s, e, hf, (hk b hb).trans hB⟩
  | h + 1, b, L, ⟨hb, K, g, c, h2, h3, h4, h5, e, h6, h7, h8⟩ => ⟨hb, K, g, c, h2, h3, h4, fun k hm => (h5 k hm).keep hs hk, e, h6, h7.keep hs (hk g h6), (hk b hb).trans h8⟩
theorem KnotW.weak {w : World} {B B' : Nat → Prop} (hB : ∀ k, B k → B' k) : ∀ {h b : Nat} {L : List ByteArray}, KnotW w B h b L → KnotW w B' h b L
  | 0, b, L, ⟨hb, r⟩ => ⟨hB _ hb, r⟩
  | h + 1, b, L, ⟨hb, K, g, c, h2, h3, h4, h5, e, h6, r⟩ => ⟨hB _ hb, K, g, c, h2, h3, h4, fun k hm => (h5 k hm).weak hB, e, hB _ h6, r⟩
theorem KnotN.knot {w : World} {B B' : Nat → Prop} {h b : Nat} {K : List Kid} {g c : Nat} (n : KnotN w B h b K g c) (hB : ∀ k, B k → B' k) (hb : B' b) (hg : B' g) : KnotW w B' (h + 1) b (flat K) :=
  ⟨hb, K, g, c, n.two, n.eight, n.cap, fun k hk => (n.kids k hk).weak hB, rfl, hg, n.row, n.blk⟩
theorem KnotW.below {w w' : World} {B : Nat → Prop} {N h b : Nat} {L : List ByteArray} (k : KnotW w B h b L) (hb : Below N w w') (hB : ∀ i, B i → i < N) : KnotW w' B h b L := k.keep hb.size fun i hi => hb.block i (hB i hi)
/-- A knot in the heap of the world it lies in. -/
abbrev KnotH (w : World) (h b : Nat) (L : List ByteArray) : Prop := KnotW w (· < w.heap.size) h b L
theorem KnotH.on {w w' : World} {h b : Nat} {L : List ByteArray} (k : KnotH w h b L) (hb : Below w.heap.size w w') : KnotH w' h b L := (k.below hb fun _ h => h).weak fun _ h => Nat.lt_of_lt_of_le h hb.size
theorem KnotN.on {w w' : World} {B : Nat → Prop} {h b : Nat} {K : List Kid} {g c : Nat} (n : KnotN w B h b K g c) (hB : ∀ i, B i → i < w.heap.size) (hb : Below w.heap.size w w') : KnotN w' B h b K g c :=
  ⟨n.two, n.eight, n.cap, fun k hm => (n.kids k hm).below hb hB, n.row.on hb, n.blk.onto hb⟩
/-- What is so of its chunks. -/
theorem flat_many {K : List Kid} {P : ByteArray → Prop} {m : Nat} (h : ∀ k ∈ K, (∀ s ∈ k.L, P s) ∧ m ≤ k.L.length) : (∀ s ∈ flat K, P s) ∧ m * K.length ≤ (flat K).length := by
  induction K with
  | nil => exact ⟨fun s hs => absurd hs (by simp [flat]), by simp⟩
  | cons k K ih =>
    obtain ⟨i1, i2⟩ := ih fun x hx => h x (by simp [hx])
    obtain ⟨j1, j2⟩ := h k (by simp)
    have e : flat (k :: K) = k.L ++ flat K := by simp [flat]
    refine ⟨fun s hs => ?_, ?_⟩
    · rw [e, List.mem_append] at hs
      exact hs.elim (j1 s) (i1 s)
    · rw [e, List.length_append, List.length_cons, Nat.mul_succ]
      omega
theorem KnotW.chunks {w : World} {B : Nat → Prop} : ∀ {h b : Nat} {L : List ByteArray}, KnotW w B h b L → (∀ s ∈ L, fitsP s) ∧ 2 ^ h ≤ L.length
  | 0, b, L, ⟨hb, s, e, hf, hB⟩ => by subst e; exact ⟨fun t ht => by rw [List.mem_singleton.1 ht]; exact hf, Nat.le_refl _⟩
  | h + 1, b, L, ⟨hb, K, g, c, h2, h3, h4, h5, e, r⟩ => by
    subst e
    obtain ⟨i1, i2⟩ := flat_many (P := fitsP) (m := 2 ^ h) fun k hk => (h5 k hk).chunks
    refine ⟨i1, ?_⟩
    have := Nat.mul_le_mul_left (2 ^ h) h2
    rw [Nat.pow_succ]
    omega
theorem KnotW.many {w : World} {B : Nat → Prop} {h b : Nat} {L : List ByteArray} (k : KnotW w B h b L) : 0 < L.length := Nat.lt_of_lt_of_le (Nat.pow_pos (by decide)) k.chunks.2
theorem KnotW.ne {w : World} {B : Nat → Prop} {h b : Nat} {L : List ByteArray} (k : KnotW w B h b L) : L ≠ [] := fun e => by have := k.many; rw [e] at this; exact absurd this (Nat.lt_irrefl 0)
/-- The block of any knot. -/
theorem KnotW.cells {w : World} {B : Nat → Prop} : ∀ {h b : Nat} {L : List ByteArray}, KnotW w B h b L → ∃ kv : Value, (∃ a n c, kv = .slice a n c) ∧ Blk w b (kcs (h + 1) (wholeL L) (fstL L) (lstL L) kv) 89
  | 0, b, L, ⟨hb, s, e, hf, hB⟩ => by subst e; rw [whole_one]; exact ⟨_, ⟨_, _, _, rfl⟩, hB⟩
  | h + 1, b, L, ⟨hb, K, g, c, h2, h3, h4, h5, e, h6, h7, h8⟩ => ⟨_, ⟨_, _, _, rfl⟩, by
    rw [show ((h + 1 : Nat) : Int) + 1 = (h : Int) + 2 by omega]; exact h8⟩
theorem flat_ends {K : List Kid} (h : ∀ k ∈ K, k.L ≠ []) (h0 : 0 < K.length) : fstL (flat K) = fstL K[0].L ∧ lstL (flat K) = lstL (K[K.length - 1]'(by omega)).L := by
  constructor
  · cases K with
    | nil => exact absurd h0 (Nat.lt_irrefl 0)
    | cons k K =>
      have e : flat (k :: K) = k.L ++ flat K := by simp [flat]
      rw [e, fstL_app (h k (by simp))]
      rfl
  · have e : K = K.take (K.length - 1) ++ [K[K.length - 1]'(by omega)] := by
      have := List.take_succ_eq_append_getElem (l := K) (i := K.length - 1) (by omega)
      rw [show K.length - 1 + 1 = K.length by omega, List.take_length] at this
      exact this
    have e2 : flat K = flat (K.take (K.length - 1)) ++ (K[K.length - 1]'(by omega)).L := by
      conv => lhs; rw [e]
      rw [flat_app, flat_one]
    rw [e2, lstL_app (h _ (List.getElem_mem _))]
/-- The counts of knots together. -/
theorem cnt_flat {K : List Kid} (hz : (wholeL (flat K)).size ≤ 1000000) : Cnt.sum (K.map fun k => cntK (wholeL k.L)) = cntK (wholeL (flat K)) := by
  have h : ∀ n, n ≤ K.length → Cnt.sum ((K.map fun k => cntK (wholeL k.L)).take n) = cntK (wholeL (flat (K.take n))) := by
    intro n
    induction n with
    | zero => intro _; rw [List.take_zero, List.take_zero]; rfl
    | succ n ih =>
      intro hn
      have e : flat (K.take (n + 1)) = flat (K.take n) ++ (K[n]'(by omega)).L := by
        rw [List.take_succ_eq_append_getElem (by omega), flat_app, flat_one]
      have hl : (wholeL (flat (K.take (n + 1)))).size ≤ (wholeL (flat K)).size := by
        have e2 : flat K = flat (K.take (n + 1)) ++ flat (K.drop (n + 1)) := by rw [← flat_app, List.take_append_drop]
        rw [e2, whole_app, ByteArray.size_append]
        omega
      rw [sum_take _ _ (by simpa using (show n < K.length by omega)), ih (by omega), List.getElem_map]
      rw [e, whole_app] at hl ⊢
      exact cntK_app _ _ (by omega)
  have := h K.length (Nat.le_refl _)
  rwa [List.take_length, List.take_of_length_le (by simp)] at this
end Go.Proofs.Ytephlcdanokolaa
