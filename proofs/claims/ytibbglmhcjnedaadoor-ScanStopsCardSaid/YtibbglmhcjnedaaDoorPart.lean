/-
  A struct of one-cell fields as it comes in, by value and in rows. (Written by gen_struct.py.)
-/
import Derived.Test.YtibbglmhcjnedaaDoorOpen
namespace Go.Proofs.YtibbglmhcjnedaaDoor
open Go.RowKit Go.ChangeShapes Go.WideShapes Go.Deep
set_option linter.unusedVariables false

structure Part where
  data : ByteArray
  fill : Bool
def Part.fits (x : Part) : Prop := x.data.size ≤ maxLen ∧ True
/-- Its value. -/
abbrev Part.v (x : Part) : Value := .agg #[.string x.data, .bool x.fill]
/-- A slice that reads as these; its row's block is one of these. -/
def Parts (w : World) (B : Nat → Prop) (a : Option Addr) (l : List Part) : Prop :=
  ∀ (k : Nat) (h : k < l.length), ∃ ad, a = some ad ∧ B ad.block ∧ w.cell? (ad.add (k * 2)) = some (.string (l[k]).data) ∧ w.cell? ⟨(ad.add (k * 2)).block, (ad.add (k * 2)).off + 1, none⟩ = some (.bool (l[k]).fill)
theorem Parts.keep {w w' : World} {B : Nat → Prop} {a : Option Addr} {l : List Part} (h : Parts w B a l) (hk : ∀ p : Addr, B p.block → w'.cell? p = w.cell? p) : Parts w' B a l := fun k hl => by
  obtain ⟨ad, e, hb, q0, q1⟩ := h k hl
  exact ⟨ad, e, hb, (hk _ (by rw [show (ad.add (k * 2)).block = ad.block by unfold Addr.add; split <;> rfl]; exact hb)).trans q0, (hk _ (by show B (ad.add (k * 2)).block; rw [show (ad.add (k * 2)).block = ad.block by unfold Addr.add; split <;> rfl]; exact hb)).trans q1⟩
theorem Parts.below {w w' : World} {B : Nat → Prop} {N : Nat} {a : Option Addr} {l : List Part} (h : Parts w B a l) (hN : ∀ b, B b → b < N) (hb : Below N w w') : Parts w' B a l := h.keep fun _ hp => hb.cell (hN _ hp)
theorem Parts.more {w : World} {B B' : Nat → Prop} {a : Option Addr} {l : List Part} (h : Parts w B a l) (hB : ∀ b, B b → B' b) : Parts w B' a l := fun k hl => by
  obtain ⟨ad, e, hb, h1⟩ := h k hl
  exact ⟨ad, e, hB _ hb, h1⟩
theorem Parts.set {w : World} {B : Nat → Prop} {a : Option Addr} {l : List Part} (h : Parts w B a l) {p : Addr} {x : Option Addr} {y z : Nat} (hc : w.cell? p = some (.slice x y z)) (u : Value) : Parts (w.setCell p u) B a l := fun k hl => by
  obtain ⟨ad, e, hb, q0, q1⟩ := h k hl
  exact ⟨ad, e, hb, (World.cell?_setCell_other _ _ _ _ (fun e => by rw [e] at hc; rw [hc] at q0; cases q0)).trans q0, (World.cell?_setCell_other _ _ _ _ (fun e => by rw [e] at hc; rw [hc] at q1; cases q1)).trans q1⟩
theorem Parts.mk {w : World} {B : Nat → Prop} {a : Addr} {l : List Part} (hb : B a.block) (h : ∀ k (hk : k < l.length) j (hj : j < 2), w.cell? ((a.add (k * 2)).add j) = #[.string (l[k]).data, .bool (l[k]).fill][j]?) : Parts w B (some a) l := fun k hk => by
  have hbl : (a.add (k * 2)).block = a.block := by unfold Addr.add; split <;> rfl
  refine ⟨a, rfl, hb, ?_, ?_⟩
  · have := h k hk 0 (by omega)
    simpa [Addr.add] using this
  · have := h k hk 1 (by omega)
    simpa [Addr.add] using this

section
variable {H : Type} {enc : TypeId × Value → H} {w : World} {base : Nat} {spare : Nat → Bool} {held : Bool}
set_option maxRecDepth 100000 in
theorem cells_part : Tryd.prog.cellsOf 42 = 2 := by kernel_rfl
set_option maxRecDepth 100000 in
set_option maxRecDepth 100000 in
theorem trod_part {n : Nat} {cs : List Value} {x : DataW H × List MemPlace} (h : DataW.trod enc Tryd.prog w base spare held n 42 cs = some x) :
    ∃ x : Part, x.fits ∧ cs = [.string x.data, .bool x.fill] := by
  obtain ⟨hl, hf⟩ := open_fields Tryd.underlying42 (by kernel_rfl) h
  rw [cells_part] at hl
  obtain ⟨u0, u1, rfl⟩ : ∃ u0 u1, cs = [u0, u1] := by
    match cs, hl with
    | [u0, u1], _ => exact ⟨u0, u1, rfl⟩
  obtain ⟨m0, y0, h0⟩ := hf 0 _ (by simp) rfl
  obtain ⟨x0, e0, _, w0⟩ := DataW.trod_string Tryd.underlying9 h0
  have g0 : u0 = .string x0 := by simpa using e0
  obtain ⟨m1, y1, h1⟩ := hf 1 _ (by simp) rfl
  obtain ⟨x1, e1, _⟩ := DataW.trod_bool Tryd.underlying4 h1
  have g1 : u1 = .bool x1 := by simpa using e1
  subst g0 g1
  exact ⟨⟨x0, x1⟩, ⟨w0, trivial⟩, rfl⟩
set_option maxRecDepth 100000 in
set_option maxRecDepth 100000 in
theorem open_part {r : Reach} {b0 : Nat} {v : Value} {d : DataW H} {p : List MemPlace} (hv : Value.okWide Tryd.prog w r b0 42 v) (h : DataW.Trod enc Tryd.prog w base spare held 42 v d p) (_ : ∀ x ∈ p, x.block < w.heap.size) :
    ∃ x : Part, v = x.v ∧ x.fits := by
  obtain ⟨cs, rfl, _⟩ := okWide_struct Tryd.underlying42 hv
  obtain ⟨n, hn⟩ := h
  obtain ⟨x, hc, he⟩ := trod_part hn
  refine ⟨x, ?_, hc⟩
  have : cs.toList = [.string x.data, .bool x.fill] := by simpa [Value.cells] using he
  show Value.agg cs = _
  rw [show cs = #[.string x.data, .bool x.fill] from Array.toList_inj.1 this]
set_option maxRecDepth 100000 in
set_option maxRecDepth 100000 in
theorem open_parts {r : Reach} {b0 : Nat} {v : Value} {d : DataW H} {p : List MemPlace} (hv : Value.okWide Tryd.prog w r b0 32 v) (h : DataW.Trod enc Tryd.prog w base spare held 32 v d p) (_ : ∀ x ∈ p, x.block < w.heap.size) :
    ∃ (a : Option Addr) (l : List Part) (c : Nat), v = .slice a l.length c ∧ Parts w (· < w.heap.size) a l ∧ (∀ x ∈ l, x.fits) ∧ l.length ≤ maxLen := by
  rcases open_row Tryd.underlying32 hv h with rfl | ⟨a, len, cap, rfl, hlc, hcm, hx⟩
  · exact ⟨none, [], 0, rfl, fun k hk => absurd hk (by simp), fun x hx => absurd hx (by simp), Nat.zero_le _⟩
  · haveI : Inhabited Part := ⟨⟨ByteArray.empty, false⟩⟩
    obtain ⟨V, hV⟩ := choose_lt (α := Part) (p := fun i x => x.fits ∧ w.cells? base (a.add (i * Tryd.prog.cellsOf 42)) (Tryd.prog.cellsOf 42) = some [.string x.data, .bool x.fill]) (fun i hi => by
      obtain ⟨cs, n, x, h1, h2⟩ := hx i hi
      obtain ⟨c, hf, rfl⟩ := trod_part h2
      exact ⟨c, hf, h1⟩)
    have hlen : ((List.range len).map V).length = len := by simp
    refine ⟨some a, (List.range len).map V, cap, by rw [hlen], fun k hk => ?_, fun x hx => ?_, by rw [hlen]; omega⟩
    · have hk' : k < len := by rw [hlen] at hk; exact hk
      have h1 := (hV k hk').2
      rw [cells_part] at h1
      obtain ⟨_, hc⟩ := cells_get h1
      have hbl : (a.add (k * 2)).block = a.block := by unfold Addr.add; split <;> rfl
      have q0 := hc 0 (by simp)
      have q1 := hc 1 (by simp)
      refine ⟨a, rfl, ?_, ?_, ?_⟩
      · have := World.block_lt_of_cell? w _ q0
        rwa [show ((a.add (k * 2)).add 0).block = (a.add (k * 2)).block by unfold Addr.add; simp, hbl] at this
      · simpa [Addr.add] using q0
      · simpa [Addr.add] using q1
    · obtain ⟨i, hi, rfl⟩ := List.mem_map.1 hx
      exact (hV i (List.mem_range.1 hi)).1
end

/-- The cells of such a row, one behind the other. -/
def Part.flat (l : List Part) : List Value := l.flatMap fun x => [.string x.data, .bool x.fill]
theorem Part.flat_len (l : List Part) : (Part.flat l).length = l.length * 2 := by
  unfold Part.flat
  induction l with
  | nil => rfl
  | cons a r ih => rw [List.flatMap_cons, List.length_append, ih]; simp; omega
theorem Part.flat_app (a b : List Part) : Part.flat (a ++ b) = Part.flat a ++ Part.flat b := by simp [Part.flat]
theorem Part.flat_get (l : List Part) (k : Nat) (h : k < l.length) : (Part.flat l)[k * 2]? = some (.string (l[k]'h).data) ∧ (Part.flat l)[k * 2 + 1]? = some (.bool (l[k]'h).fill) := by
  induction l generalizing k with
  | nil => simp at h
  | cons a r ih =>
    have e : Part.flat (a :: r) = ([.string a.data, .bool a.fill] : List Value) ++ Part.flat r := by simp [Part.flat]
    rw [e]
    match k, h with
    | 0, _ => simp
    | k + 1, h =>
      have hr := ih k (by simpa using h)
      rw [show (k + 1) * 2 = ([.string a.data, .bool a.fill] : List Value).length + k * 2 from by simp; omega]
      simp only [Nat.add_assoc, List.getElem?_append_right (Nat.le_add_right _ _), Nat.add_sub_cancel_left]
      exact hr
theorem part_info : (Tryd.prog.info? 42).map (fun i => (i.zero, i.size, i.bytes)) = some (some (.agg #[.string ByteArray.empty, .bool false]), 2, 24) := by kernel_rfl
/-- One laid in a block of its own, to be appended. -/
theorem news_part (w : World) (data : ByteArray) (fill : Bool) (t : TypeId) : ∀ j u, ([.string data, .bool fill] : List Value)[j]? = some u → (w.alloc (.cells #[.string data, .bool fill] t)).cell? ((⟨w.heap.size, 0, none⟩ : Addr).add j) = some u := by
  intro j u hj
  match j, hj with
  | 0, hj => simp at hj; subst hj; simp [Addr.add]
  | 1, hj => simp at hj; subst hj; simp [Addr.add, World.cell?_alloc_new]
theorem one_part (data : ByteArray) (fill : Bool) : ∀ u ∈ ([.string data, .bool fill] : List Value), u.oneCell' = true := by
  intro u hu
  simp at hu
  rcases hu with rfl | rfl <;> rfl
theorem own_parts {w : World} {base : Nat} {t : TypeId} {v : Value} {l : List Part} (h : w.ownsRow base t 2 v l.length (Part.flat l)) : ∃ a c, v = .slice a l.length c ∧ Parts w (fun b => base ≤ b ∧ b < w.heap.size) a l := by
  rcases h.2 with ⟨rfl, h0⟩ | ⟨g, cap, cur, rfl, hgb, hg, _⟩
  · exact ⟨none, 0, by rw [h0], fun k hk => absurd hk (by omega)⟩
  · refine ⟨_, _, rfl, fun k hk => ⟨_, rfl, ⟨hgb, (h.lt g rfl).2⟩, ?_, ?_⟩⟩
    · exact h.cells (g := g) rfl (k * 2) _ (Part.flat_get l k hk).1
    · have := h.cells (g := g) rfl (k * 2 + 1) _ (Part.flat_get l k hk).2
      have e : (⟨((⟨g, 0, none⟩ : Addr).add (k * 2)).block, ((⟨g, 0, none⟩ : Addr).add (k * 2)).off + 1, none⟩ : Addr) = (⟨g, 0, none⟩ : Addr).add (k * 2 + 1) := by
        unfold Addr.add
        by_cases hk0 : k * 2 = 0 <;> simp [hk0]
      rw [e]; exact this
def RetParts (w : World) (l : List Part) (e : Ending) (w' : World) : Prop := ∃ a c, e = .returned (.slice a l.length c) ∧ Parts w' (fun b => w.heap.size ≤ b ∧ b < w'.heap.size) a l ∧ Below w.heap.size w w'
end Go.Proofs.YtibbglmhcjnedaaDoor
