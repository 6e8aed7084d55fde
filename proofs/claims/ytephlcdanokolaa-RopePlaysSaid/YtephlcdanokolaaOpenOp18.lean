/-
  A struct of one-cell fields as it comes in, by value and in rows. (Written by gen_struct.py.)
-/
import Derived.Test.YtephlcdanokolaaOpen
namespace Go.Proofs.Ytephlcdanokolaa
open Go.RowKit Go.ChangeShapes Go.WideShapes Go.Deep
set_option linter.unusedVariables false

structure Op18 where
  At : Int
  N : Int
  S : ByteArray
def Op18.fits (x : Op18) : Prop := (-9223372036854775808 ≤ x.At ∧ x.At ≤ 9223372036854775807) ∧ (-9223372036854775808 ≤ x.N ∧ x.N ≤ 9223372036854775807) ∧ x.S.size ≤ maxLen
/-- Its value. -/
abbrev Op18.v (x : Op18) : Value := .agg #[.int .i64 x.At, .int .i64 x.N, .string x.S]
/-- A slice that reads as these; its row's block is one of these. -/
def Op18s (w : World) (B : Nat → Prop) (a : Option Addr) (l : List Op18) : Prop :=
  ∀ (k : Nat) (h : k < l.length), ∃ ad, a = some ad ∧ B ad.block ∧ w.cell? (ad.add (k * 3)) = some (.int .i64 (l[k]).At) ∧ w.cell? ⟨(ad.add (k * 3)).block, (ad.add (k * 3)).off + 1, none⟩ = some (.int .i64 (l[k]).N) ∧ w.cell? ⟨(ad.add (k * 3)).block, (ad.add (k * 3)).off + 2, none⟩ = some (.string (l[k]).S)
theorem Op18s.keep {w w' : World} {B : Nat → Prop} {a : Option Addr} {l : List Op18} (h : Op18s w B a l) (hk : ∀ p : Addr, B p.block → w'.cell? p = w.cell? p) : Op18s w' B a l := fun k hl => by
  obtain ⟨ad, e, hb, q0, q1, q2⟩ := h k hl
  exact ⟨ad, e, hb, (hk _ (by rw [show (ad.add (k * 3)).block = ad.block by unfold Addr.add; split <;> rfl]; exact hb)).trans q0, (hk _ (by show B (ad.add (k * 3)).block; rw [show (ad.add (k * 3)).block = ad.block by unfold Addr.add; split <;> rfl]; exact hb)).trans q1, (hk _ (by show B (ad.add (k * 3)).block; rw [show (ad.add (k * 3)).block = ad.block by unfold Addr.add; split <;> rfl]; exact hb)).trans q2⟩
theorem Op18s.below {w w' : World} {B : Nat → Prop} {N : Nat} {a : Option Addr} {l : List Op18} (h : Op18s w B a l) (hN : ∀ b, B b → b < N) (hb : Below N w w') : Op18s w' B a l := h.keep fun _ hp => hb.cell (hN _ hp)
theorem Op18s.more {w : World} {B B' : Nat → Prop} {a : Option Addr} {l : List Op18} (h : Op18s w B a l) (hB : ∀ b, B b → B' b) : Op18s w B' a l := fun k hl => by
  obtain ⟨ad, e, hb, h1⟩ := h k hl
  exact ⟨ad, e, hB _ hb, h1⟩
theorem Op18s.set {w : World} {B : Nat → Prop} {a : Option Addr} {l : List Op18} (h : Op18s w B a l) {p : Addr} {x : Option Addr} {y z : Nat} (hc : w.cell? p = some (.slice x y z)) (u : Value) : Op18s (w.setCell p u) B a l := fun k hl => by
  obtain ⟨ad, e, hb, q0, q1, q2⟩ := h k hl
  exact ⟨ad, e, hb, (World.cell?_setCell_other _ _ _ _ (fun e => by rw [e] at hc; rw [hc] at q0; cases q0)).trans q0, (World.cell?_setCell_other _ _ _ _ (fun e => by rw [e] at hc; rw [hc] at q1; cases q1)).trans q1, (World.cell?_setCell_other _ _ _ _ (fun e => by rw [e] at hc; rw [hc] at q2; cases q2)).trans q2⟩
theorem Op18s.mk {w : World} {B : Nat → Prop} {a : Addr} {l : List Op18} (hb : B a.block) (h : ∀ k (hk : k < l.length) j (hj : j < 3), w.cell? ((a.add (k * 3)).add j) = #[.int .i64 (l[k]).At, .int .i64 (l[k]).N, .string (l[k]).S][j]?) : Op18s w B (some a) l := fun k hk => by
  have hbl : (a.add (k * 3)).block = a.block := by unfold Addr.add; split <;> rfl
  refine ⟨a, rfl, hb, ?_, ?_, ?_⟩
  · have := h k hk 0 (by omega)
    simpa [Addr.add] using this
  · have := h k hk 1 (by omega)
    simpa [Addr.add] using this
  · have := h k hk 2 (by omega)
    simpa [Addr.add] using this

section
variable {H : Type} {enc : TypeId × Value → H} {w : World} {base : Nat} {spare : Nat → Bool} {held : Bool}
theorem cells_op18 : Try.prog.cellsOf 33 = 3 := by kernel_rfl
set_option maxRecDepth 100000 in
theorem trod_op18 {n : Nat} {cs : List Value} {x : DataW H × List MemPlace} (h : DataW.trod enc Try.prog w base spare held n 33 cs = some x) :
    ∃ x : Op18, x.fits ∧ cs = [.int .i64 x.At, .int .i64 x.N, .string x.S] := by
  obtain ⟨hl, hf⟩ := open_fields Try.underlying33 (by kernel_rfl) h
  rw [cells_op18] at hl
  obtain ⟨u0, u1, u2, rfl⟩ : ∃ u0 u1 u2, cs = [u0, u1, u2] := by
    match cs, hl with
    | [u0, u1, u2], _ => exact ⟨u0, u1, u2, rfl⟩
  obtain ⟨m0, y0, h0⟩ := hf 0 _ (by simp) rfl
  obtain ⟨x0, e0, _, w0⟩ := DataW.trod_int Try.underlying3 h0
  have g0 : u0 = .int .i64 x0 := by simpa using e0
  obtain ⟨m1, y1, h1⟩ := hf 1 _ (by simp) rfl
  obtain ⟨x1, e1, _, w1⟩ := DataW.trod_int Try.underlying3 h1
  have g1 : u1 = .int .i64 x1 := by simpa using e1
  obtain ⟨m2, y2, h2⟩ := hf 2 _ (by simp) rfl
  obtain ⟨x2, e2, _, w2⟩ := DataW.trod_string Try.underlying9 h2
  have g2 : u2 = .string x2 := by simpa using e2
  subst g0 g1 g2
  exact ⟨⟨x0, x1, x2⟩, ⟨bounds_i64 w0, bounds_i64 w1, w2⟩, rfl⟩
set_option maxRecDepth 100000 in
theorem open_op18 {r : Reach} {b0 : Nat} {v : Value} {d : DataW H} {p : List MemPlace} (hv : Value.okWide Try.prog w r b0 33 v) (h : DataW.Trod enc Try.prog w base spare held 33 v d p) (_ : ∀ x ∈ p, x.block < w.heap.size) :
    ∃ x : Op18, v = x.v ∧ x.fits := by
  obtain ⟨cs, rfl, _⟩ := okWide_struct Try.underlying33 hv
  obtain ⟨n, hn⟩ := h
  obtain ⟨x, hc, he⟩ := trod_op18 hn
  refine ⟨x, ?_, hc⟩
  have : cs.toList = [.int .i64 x.At, .int .i64 x.N, .string x.S] := by simpa [Value.cells] using he
  show Value.agg cs = _
  rw [show cs = #[.int .i64 x.At, .int .i64 x.N, .string x.S] from Array.toList_inj.1 this]
set_option maxRecDepth 100000 in
theorem open_op18s {r : Reach} {b0 : Nat} {v : Value} {d : DataW H} {p : List MemPlace} (hv : Value.okWide Try.prog w r b0 31 v) (h : DataW.Trod enc Try.prog w base spare held 31 v d p) (_ : ∀ x ∈ p, x.block < w.heap.size) :
    ∃ (a : Option Addr) (l : List Op18) (c : Nat), v = .slice a l.length c ∧ Op18s w (· < w.heap.size) a l ∧ (∀ x ∈ l, x.fits) ∧ l.length ≤ maxLen := by
  rcases open_row Try.underlying31 hv h with rfl | ⟨a, len, cap, rfl, hlc, hcm, hx⟩
  · exact ⟨none, [], 0, rfl, fun k hk => absurd hk (by simp), fun x hx => absurd hx (by simp), Nat.zero_le _⟩
  · haveI : Inhabited Op18 := ⟨⟨0, 0, ByteArray.empty⟩⟩
    obtain ⟨V, hV⟩ := choose_lt (α := Op18) (p := fun i x => x.fits ∧ w.cells? base (a.add (i * Try.prog.cellsOf 33)) (Try.prog.cellsOf 33) = some [.int .i64 x.At, .int .i64 x.N, .string x.S]) (fun i hi => by
      obtain ⟨cs, n, x, h1, h2⟩ := hx i hi
      obtain ⟨c, hf, rfl⟩ := trod_op18 h2
      exact ⟨c, hf, h1⟩)
    have hlen : ((List.range len).map V).length = len := by simp
    refine ⟨some a, (List.range len).map V, cap, by rw [hlen], fun k hk => ?_, fun x hx => ?_, by rw [hlen]; omega⟩
    · have hk' : k < len := by rw [hlen] at hk; exact hk
      have h1 := (hV k hk').2
      rw [cells_op18] at h1
      obtain ⟨_, hc⟩ := cells_get h1
      have hbl : (a.add (k * 3)).block = a.block := by unfold Addr.add; split <;> rfl
      have q0 := hc 0 (by simp)
      have q1 := hc 1 (by simp)
      have q2 := hc 2 (by simp)
      refine ⟨a, rfl, ?_, ?_, ?_, ?_⟩
      · have := World.block_lt_of_cell? w _ q0
        rwa [show ((a.add (k * 3)).add 0).block = (a.add (k * 3)).block by unfold Addr.add; simp, hbl] at this
      · simpa [Addr.add] using q0
      · simpa [Addr.add] using q1
      · simpa [Addr.add] using q2
    · obtain ⟨i, hi, rfl⟩ := List.mem_map.1 hx
      exact (hV i (List.mem_range.1 hi)).1
end

/-- The cells of such a row, one behind the other. -/
def Op18.flat (l : List Op18) : List Value := l.flatMap fun x => [.int .i64 x.At, .int .i64 x.N, .string x.S]
theorem Op18.flat_len (l : List Op18) : (Op18.flat l).length = l.length * 3 := by
  unfold Op18.flat
  induction l with
  | nil => rfl
  | cons a r ih => rw [List.flatMap_cons, List.length_append, ih]; simp; omega
theorem Op18.flat_app (a b : List Op18) : Op18.flat (a ++ b) = Op18.flat a ++ Op18.flat b := by simp [Op18.flat]
theorem Op18.flat_get (l : List Op18) (k : Nat) (h : k < l.length) : (Op18.flat l)[k * 3]? = some (.int .i64 (l[k]'h).At) ∧ (Op18.flat l)[k * 3 + 1]? = some (.int .i64 (l[k]'h).N) ∧ (Op18.flat l)[k * 3 + 2]? = some (.string (l[k]'h).S) := by
  induction l generalizing k with
  | nil => simp at h
  | cons a r ih =>
    have e : Op18.flat (a :: r) = ([.int .i64 a.At, .int .i64 a.N, .string a.S] : List Value) ++ Op18.flat r := by simp [Op18.flat]
    rw [e]
    match k, h with
    | 0, _ => simp
    | k + 1, h =>
      have hr := ih k (by simpa using h)
      rw [show (k + 1) * 3 = ([.int .i64 a.At, .int .i64 a.N, .string a.S] : List Value).length + k * 3 from by simp; omega]
      simp only [Nat.add_assoc, List.getElem?_append_right (Nat.le_add_right _ _), Nat.add_sub_cancel_left]
      exact hr
theorem op18_info : (Try.prog.info? 33).map (fun i => (i.zero, i.size, i.bytes)) = some (some (.agg #[.int .i64 0, .int .i64 0, .string ByteArray.empty]), 3, 32) := by kernel_rfl
/-- One laid in a block of its own, to be appended. -/
theorem news_op18 (w : World) (At : Int) (N : Int) (S : ByteArray) (t : TypeId) : ∀ j u, ([.int .i64 At, .int .i64 N, .string S] : List Value)[j]? = some u → (w.alloc (.cells #[.int .i64 At, .int .i64 N, .string S] t)).cell? ((⟨w.heap.size, 0, none⟩ : Addr).add j) = some u := by
  intro j u hj
  match j, hj with
  | 0, hj => simp at hj; subst hj; simp [Addr.add]
  | 1, hj => simp at hj; subst hj; simp [Addr.add, World.cell?_alloc_new]
  | 2, hj => simp at hj; subst hj; simp [Addr.add, World.cell?_alloc_new]
theorem one_op18 (At : Int) (N : Int) (S : ByteArray) : ∀ u ∈ ([.int .i64 At, .int .i64 N, .string S] : List Value), u.oneCell' = true := by
  intro u hu
  simp at hu
  rcases hu with rfl | rfl | rfl <;> rfl
theorem own_op18s {w : World} {base : Nat} {t : TypeId} {v : Value} {l : List Op18} (h : w.ownsRow base t 3 v l.length (Op18.flat l)) : ∃ a c, v = .slice a l.length c ∧ Op18s w (fun b => base ≤ b ∧ b < w.heap.size) a l := by
  rcases h.2 with ⟨rfl, h0⟩ | ⟨g, cap, cur, rfl, hgb, hg, _⟩
  · exact ⟨none, 0, by rw [h0], fun k hk => absurd hk (by omega)⟩
  · refine ⟨_, _, rfl, fun k hk => ⟨_, rfl, ⟨hgb, (h.lt g rfl).2⟩, ?_, ?_, ?_⟩⟩
    · exact h.cells (g := g) rfl (k * 3) _ (Op18.flat_get l k hk).1
    · have := h.cells (g := g) rfl (k * 3 + 1) _ (Op18.flat_get l k hk).2.1
      have e : (⟨((⟨g, 0, none⟩ : Addr).add (k * 3)).block, ((⟨g, 0, none⟩ : Addr).add (k * 3)).off + 1, none⟩ : Addr) = (⟨g, 0, none⟩ : Addr).add (k * 3 + 1) := by
        unfold Addr.add
        by_cases hk0 : k * 3 = 0 <;> simp [hk0]
      rw [e]; exact this
    · have := h.cells (g := g) rfl (k * 3 + 2) _ (Op18.flat_get l k hk).2.2
      have e : (⟨((⟨g, 0, none⟩ : Addr).add (k * 3)).block, ((⟨g, 0, none⟩ : Addr).add (k * 3)).off + 2, none⟩ : Addr) = (⟨g, 0, none⟩ : Addr).add (k * 3 + 2) := by
        unfold Addr.add
        by_cases hk0 : k * 3 = 0 <;> simp [hk0]
      rw [e]; exact this
def RetOp18s (w : World) (l : List Op18) (e : Ending) (w' : World) : Prop := ∃ a c, e = .returned (.slice a l.length c) ∧ Op18s w' (fun b => w.heap.size ≤ b ∧ b < w'.heap.size) a l ∧ Below w.heap.size w w'
end Go.Proofs.Ytephlcdanokolaa
