/-
  Layer 16's law KnotJoins: what is gathered in its loop.
-/
import Derived.Test.YtmdcdkmokaejbaaLawKnot4
import Derived.Test.YtmdcdkmokaejbaaOpenTexts2
namespace Go.Proofs.Ytmdcdkmokaejbaa
open Go.RowKit
set_option linter.unusedVariables false
set_option linter.unusedSimpArgs false

/-- The address of a tree: nil, of one without chunks. -/
def pk (k : Kid) : Option Addr := if k.L = [] then none else some ⟨k.b, 0, none⟩
theorem pk_none {k : Kid} (h : k.L = []) : pk k = none := if_pos h
theorem pk_some {k : Kid} (h : k.L ≠ []) : pk k = some ⟨k.b, 0, none⟩ := if_neg h
/-- Its height. -/
def hL (L : List ByteArray) : Int := if L = [] then -1 else (upH L.length 0 : Nat)
theorem hL_none {L : List ByteArray} (h : L = []) : hL L = -1 := if_pos h
theorem hL_some {L : List ByteArray} (h : L ≠ []) : hL L = (upH L.length 0 : Nat) := if_neg h
/-- What is so of each of them. -/
structure ItW (w : World) (B : Nat → Prop) (k : Kid) : Prop where
  kn : k.L = [] ∨ KnotW w B (upH k.L.length 0) k.b k.L
  len : k.L.length ≤ 200
  fit : ∀ s ∈ k.L, fitsP s
theorem ItW.high {w : World} {B : Nat → Prop} {k : Kid} (I : ItW w B k) (h : k.L ≠ []) : upH k.L.length 0 ≤ 20 := by
  have hk := I.kn.resolve_left h
  have h1 := hk.chunks.2
  have h2 := I.len
  rcases Nat.lt_or_ge (upH k.L.length 0) 21 with g | g
  · omega
  · have := Nat.pow_le_pow_right (show 0 < 2 by decide) (show 8 ≤ upH k.L.length 0 by omega)
    omega
theorem ItW.hgt {w : World} {B : Nat → Prop} {k : Kid} (I : ItW w B k) : Hgt w (pk k) (hL k.L) := by
  by_cases h : k.L = []
  · rw [pk_none h, hL_none h]; exact .inl ⟨rfl, rfl⟩
  · rw [pk_some h, hL_some h]
    exact (I.kn.resolve_left h).hgt (by have := I.high h; omega)
theorem ItW.keep {w w' : World} {B B' : Nat → Prop} {k : Kid} (I : ItW w B k) (hs : w.heap.size ≤ w'.heap.size) (hk : ∀ i, B i → w'.heap[i]? = w.heap[i]?) (hB : ∀ i, B i → B' i) : ItW w' B' k :=
  ⟨I.kn.imp id fun h => (h.keep hs hk).weak hB, I.len, I.fit⟩
/-- All of one height, and of 2 to 8. -/
def EvK (n : Nat) (K : List Kid) : Prop := (2 ≤ n ∧ n ≤ 8) ∧ ∀ k ∈ K, 0 ≤ hL k.L ∧ hL k.L = hL (K.headD ⟨0, []⟩).L
theorem evK_one {n : Nat} {K : List Kid} {x : Kid} : EvK n (K ++ [x]) ↔ EvK n K ∧ 0 ≤ hL x.L ∧ hL x.L = hL ((K ++ [x]).headD ⟨0, []⟩).L := by
  unfold EvK
  cases K with
  | nil => simp
  | cons k K =>
    constructor
    · rintro ⟨h1, h2⟩
      exact ⟨⟨h1, fun y hy => h2 y (by simp at hy ⊢; rcases hy with g | g <;> simp [g])⟩, h2 x (by simp)⟩
    · rintro ⟨⟨h1, h2⟩, h3⟩
      refine ⟨h1, fun y hy => ?_⟩
      rw [List.mem_append] at hy
      rcases hy with g | g
      · exact h2 y g
      · rw [List.mem_singleton.1 g]; exact h3
/-- The trees so far. -/
structure JnI (w : World) (n j : Nat) (v : Value) (K : List Kid) (s : ByteArray) (be : Bool) (wr : World) : Prop where
  own : wr.ownsRow w.heap.size 26 1 v j ((K.map pk).map Value.pointer)
  len : K.length = j
  it : ∀ k ∈ K, ItW wr (Far v wr) k
  str : s = wholeL (flat K)
  ev : be = true ↔ EvK n K
  bel : Below w.heap.size w wr
theorem JnI.size {w : World} {n j : Nat} {v : Value} {K : List Kid} {s : ByteArray} {be : Bool} {wr : World} (I : JnI w n j v K s be wr) : s.size ≤ 3200 * j ∧ (flat K).length ≤ 200 * j := by
  have h : ∀ K : List Kid, (∀ k ∈ K, k.L.length ≤ 200 ∧ ∀ s ∈ k.L, fitsP s) → (∀ s ∈ flat K, fitsP s) ∧ (flat K).length ≤ 200 * K.length := by
    intro K
    induction K with
    | nil => exact fun _ => ⟨fun s hs => absurd hs (by simp [flat]), by simp [flat]⟩
    | cons k K ih =>
      intro h
      obtain ⟨i1, i2⟩ := ih fun x hx => h x (by simp [hx])
      obtain ⟨j1, j2⟩ := h k (by simp)
      have e : flat (k :: K) = k.L ++ flat K := by simp [flat]
      refine ⟨fun s hs => ?_, ?_⟩
      · rw [e, List.mem_append] at hs
        exact hs.elim (j2 s) (i1 s)
      · rw [e, List.length_append, List.length_cons]; omega
  obtain ⟨h1, h2⟩ := h K fun k hk => ⟨(I.it k hk).len, (I.it k hk).fit⟩
  have h3 := whole_size h1
  have h4 := I.len
  rw [I.str]
  exact ⟨by omega, by omega⟩
/-- A tree over leaves. -/
theorem up_row {w wr : World} {M : List ByteArray} {v1 v2 : Value} {K : List Kid} (I : LvI w M v1 v2 K wr) (hM : M.length ≤ 200) (hf : ∀ s ∈ M, fitsP s) :
    Calls Try.prog 8 #[v1] wr fun e w' => ∃ x : Kid, x.L = M ∧ e = .returned (.pointer (pk x)) ∧ ItW w' (Since w.heap.size w') x ∧ Below wr.heap.size wr w' := by
  rcases Nat.eq_zero_or_pos M.length with h0 | h0
  · obtain rfl : M = [] := List.eq_nil_of_length_eq_zero h0
    have hx : ∀ (e : Ending) (w' : World), (e = .returned (.pointer none) ∧ Below wr.heap.size wr w') → ∃ x : Kid, x.L = [] ∧ e = .returned (.pointer (pk x)) ∧ ItW w' (Since w.heap.size w') x ∧ Below wr.heap.size wr w' :=
      fun e w' ⟨he, hb⟩ => ⟨⟨0, []⟩, rfl, by rw [pk_none rfl]; exact he, ⟨.inl rfl, Nat.zero_le _, hf⟩, hb⟩
    rcases I.none rfl with rfl | ⟨g, c, rfl⟩
    · exact (up_empty wr).mono hx
    · exact (up_empty wr).mono hx
  · obtain ⟨g, c, rfl, hc, hJ⟩ := I.join hM hf h0
    have cu := up_yes (c := c) I.bel.size hJ h0 (by omega) hc
    rw [I.fl] at cu
    refine cu.mono ?_
    rintro e w' ⟨b, rfl, hk, hb⟩
    have hne : M ≠ [] := fun e => by rw [e] at h0; exact absurd h0 (Nat.lt_irrefl 0)
    exact ⟨⟨b, M⟩, rfl, by rw [pk_some hne], ⟨.inr hk, hM, hf⟩, hb⟩
/-- One more tree. -/
theorem JnI.step {w : World} {n j : Nat} {v v' : Value} {K : List Kid} {s s' : ByteArray} {be be' : Bool} {wr w2 w3 w4 : World} {o : Obj} {x : Kid} (I : JnI w n j v K s be wr) (hb2 : Below wr.heap.size wr w2) (hx : ItW w2 (Since wr.heap.size w2) x)
    (ho : w3.ownsRow w.heap.size 26 1 v' (j + 1) ((K.map pk).map Value.pointer ++ [.pointer (pk x)])) (hg : (w2.alloc o).grownBy w3 v.ownBlock) (hat : v'.ownBlock = v.ownBlock ∨ v'.ownBlock = some (w2.alloc o).heap.size)
    (hs : s' = s ++ wholeL x.L) (he : be' = true ↔ (be = true ∧ 0 ≤ hL x.L ∧ hL x.L = hL ((K ++ [x]).headD ⟨0, []⟩).L)) (hb4 : Below w3.heap.size w3 w4) : JnI w n (j + 1) v' (K ++ [x]) s' be' w4 := by
  have hsz := I.bel.size
  have hs2 := hb2.size
  have hs3 := hg.size
  simp at hs3
  obtain ⟨f1, f2⟩ := far_step hg hat
  have q := own_on I.own hb2
  have hbel : Below w.heap.size w w3 := ((I.bel.trans (hb2.mono hsz)).alloc (by omega) o).grown hg (by simp; omega) (own_block q)
  have k4 : ∀ i, Far v' w3 i → w4.heap[i]? = w3.heap[i]? := fun i hi => hb4.block i hi.1
  have f4 : ∀ i, Far v' w3 i → Far v' w4 i := fun i hi => ⟨Nat.lt_of_lt_of_le hi.1 hb4.size, hi.2⟩
  have up : ∀ k, ItW w2 (Far v w2) k → ItW w4 (Far v' w4) k := fun k hk => (hk.keep (by omega) f1 f2).keep hb4.size k4 f4
  refine ⟨?_, by rw [List.length_append, I.len]; rfl, fun k hk => ?_, ?_, ?_, hbel.trans (hb4.mono hbel.size)⟩
  · rw [List.map_append, List.map_append]; exact own_on ho hb4
  · rcases List.mem_append.1 hk with g | g
    · exact up k ((I.it k g).keep hs2 (fun i hi => hb2.block i hi.1) fun i hi => ⟨Nat.lt_of_lt_of_le hi.1 hs2, hi.2⟩)
    · rw [List.mem_singleton.1 g]
      exact up x (hx.keep (Nat.le_refl _) (fun i hi => rfl) fun i hi => ⟨hi.2, fun e => by have := (I.own.lt i e).2; have := hi.1; omega⟩)
  · rw [hs, I.str, flat_app, flat_one, whole_app]
  · rw [he, evK_one, I.ev]
/-- The row of trees. -/
theorem JnI.row {w : World} {n j : Nat} {v : Value} {K : List Kid} {s : ByteArray} {be : Bool} {wr : World} (I : JnI w n j v K s be wr) (h0 : 0 < j) :
    ∃ g c, v = .slice (some ⟨g, 0, none⟩) j c ∧ j ≤ c ∧ w.heap.size ≤ g ∧ PRow wr g 0 ((K.map pk).map Value.pointer) := by
  obtain ⟨g, c, e, hc, hg, hr⟩ := own_row I.own h0
  exact ⟨g, c, e, hc, hg, hr⟩
end Go.Proofs.Ytmdcdkmokaejbaa
