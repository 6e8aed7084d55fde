/-
  A struct of one-cell fields as it comes in, by value and in rows. (Written by gen_struct.py.)
-/
import Derived.Test.YtimlfgjljnkbcaaOpen
namespace Go.Proofs.Ytimlfgjljnkbcaa
open Go.RowKit Go.ChangeShapes Go.WideShapes Go.Deep
set_option linter.unusedVariables false

structure Mrk where
  name : ByteArray
  p : Int
def Mrk.fits (x : Mrk) : Prop := x.name.size ≤ maxLen ∧ (-9223372036854775808 ≤ x.p ∧ x.p ≤ 9223372036854775807)
/-- Its value. -/
abbrev Mrk.v (x : Mrk) : Value := .agg #[.string x.name, .int .i64 x.p]
/-- A slice that reads as these; its row's block is one of these. -/
def Mrks (w : World) (B : Nat → Prop) (a : Option Addr) (l : List Mrk) : Prop :=
  ∀ (k : Nat) (h : k < l.length), ∃ ad, a = some ad ∧ B ad.block ∧ w.cell? (ad.add (k * 2)) = some (.string (l[k]).name) ∧ w.cell? ⟨(ad.add (k * 2)).block, (ad.add (k * 2)).off + 1, none⟩ = some (.int .i64 (l[k]).p)
theorem Mrks.keep {w w' : World} {B : Nat → Prop} {a : Option Addr} {l : List Mrk} (h : Mrks w B a l) (hk : ∀ p : Addr, B p.block → w'.cell? p = w.cell? p) : Mrks w' B a l := fun k hl => by
  obtain ⟨ad, e, hb, q0, q1⟩ := h k hl
  exact ⟨ad, e, hb, (hk _ (by rw [show (ad.add (k * 2)).block = ad.block by unfold Addr.add; split <;> rfl]; exact hb)).trans q0, (hk _ (by show B (ad.add (k * 2)).block; rw [show (ad.add (k * 2)).block = ad.block by unfold Addr.add; split <;> rfl]; exact hb)).trans q1⟩
theorem Mrks.below {w w' : World} {B : Nat → Prop} {N : Nat} {a : Option Addr} {l : List Mrk} (h : Mrks w B a l) (hN : ∀ b, B b → b < N) (hb : Below N w w') : Mrks w' B a l := h.keep fun _ hp => hb.cell (hN _ hp)
theorem Mrks.more {w : World} {B B' : Nat → Prop} {a : Option Addr} {l : List Mrk} (h : Mrks w B a l) (hB : ∀ b, B b → B' b) : Mrks w B' a l := fun k hl => by
  obtain ⟨ad, e, hb, h1⟩ := h k hl
  exact ⟨ad, e, hB _ hb, h1⟩
theorem Mrks.set {w : World} {B : Nat → Prop} {a : Option Addr} {l : List Mrk} (h : Mrks w B a l) {p : Addr} {x : Option Addr} {y z : Nat} (hc : w.cell? p = some (.slice x y z)) (u : Value) : Mrks (w.setCell p u) B a l := fun k hl => by
  obtain ⟨ad, e, hb, q0, q1⟩ := h k hl
  exact ⟨ad, e, hb, (World.cell?_setCell_other _ _ _ _ (fun e => by rw [e] at hc; rw [hc] at q0; cases q0)).trans q0, (World.cell?_setCell_other _ _ _ _ (fun e => by rw [e] at hc; rw [hc] at q1; cases q1)).trans q1⟩
theorem Mrks.mk {w : World} {B : Nat → Prop} {a : Addr} {l : List Mrk} (hb : B a.block) (h : ∀ k (hk : k < l.length) j (hj : j < 2), w.cell? ((a.add (k * 2)).add j) = #[.string (l[k]).name, .int .i64 (l[k]).p][j]?) : Mrks w B (some a) l := fun k hk => by
  have hbl : (a.add (k * 2)).block = a.block := by unfold Addr.add; split <;> rfl
  refine ⟨a, rfl, hb, ?_, ?_⟩
  · have := h k hk 0 (by omega)
    simpa [Addr.add] using this
  · have := h k hk 1 (by omega)
    simpa [Addr.add] using this

section
variable {H : Type} {enc : TypeId × Value → H} {w : World} {base : Nat} {spare : Nat → Bool} {held : Bool}
theorem cells_mrk : Try.prog.cellsOf 30 = 2 := by kernel_rfl
set_option maxRecDepth 100000 in
theorem trod_mrk {n : Nat} {cs : List Value} {x : DataW H × List MemPlace} (h : DataW.trod enc Try.prog w base spare held n 30 cs = some x) :
    ∃ x : Mrk, x.fits ∧ cs = [.string x.name, .int .i64 x.p] := by
  obtain ⟨hl, hf⟩ := open_fields Try.underlying30 (by kernel_rfl) h
  rw [cells_mrk] at hl
  obtain ⟨u0, u1, rfl⟩ : ∃ u0 u1, cs = [u0, u1] := by
    match cs, hl with
    | [u0, u1], _ => exact ⟨u0, u1, rfl⟩
  obtain ⟨m0, y0, h0⟩ := hf 0 _ (by simp) rfl
  obtain ⟨x0, e0, _, w0⟩ := DataW.trod_string Try.underlying9 h0
  have g0 : u0 = .string x0 := by simpa using e0
  obtain ⟨m1, y1, h1⟩ := hf 1 _ (by simp) rfl
  obtain ⟨x1, e1, _, w1⟩ := DataW.trod_int Try.underlying3 h1
  have g1 : u1 = .int .i64 x1 := by simpa using e1
  subst g0 g1
  exact ⟨⟨x0, x1⟩, ⟨w0, bounds_i64 w1⟩, rfl⟩
set_option maxRecDepth 100000 in
theorem open_mrk {r : Reach} {b0 : Nat} {v : Value} {d : DataW H} {p : List MemPlace} (hv : Value.okWide Try.prog w r b0 30 v) (h : DataW.Trod enc Try.prog w base spare held 30 v d p) (_ : ∀ x ∈ p, x.block < w.heap.size) :
    ∃ x : Mrk, v = x.v ∧ x.fits := by
  obtain ⟨cs, rfl, _⟩ := okWide_struct Try.underlying30 hv
  obtain ⟨n, hn⟩ := h
  obtain ⟨x, hc, he⟩ := trod_mrk hn
  refine ⟨x, ?_, hc⟩
  have : cs.toList = [.string x.name, .int .i64 x.p] := by simpa [Value.cells] using he
  show Value.agg cs = _
  rw [show cs = #[.string x.name, .int .i64 x.p] from Array.toList_inj.1 this]
set_option maxRecDepth 100000 in
theorem open_mrks {r : Reach} {b0 : Nat} {v : Value} {d : DataW H} {p : List MemPlace} (hv : Value.okWide Try.prog w r b0 22 v) (h : DataW.Trod enc Try.prog w base spare held 22 v d p) (_ : ∀ x ∈ p, x.block < w.heap.size) :
    ∃ (a : Option Addr) (l : List Mrk) (c : Nat), v = .slice a l.length c ∧ Mrks w (· < w.heap.size) a l ∧ (∀ x ∈ l, x.fits) ∧ l.length ≤ maxLen := by
  rcases open_row Try.underlying22 hv h with rfl | ⟨a, len, cap, rfl, hlc, hcm, hx⟩
  · exact ⟨none, [], 0, rfl, fun k hk => absurd hk (by simp), fun x hx => absurd hx (by simp), Nat.zero_le _⟩
  · haveI : Inhabited Mrk := ⟨⟨ByteArray.empty, 0⟩⟩
    obtain ⟨V, hV⟩ := choose_lt (α := Mrk) (p := fun i x => x.fits ∧ w.cells? base (a.add (i * Try.prog.cellsOf 30)) (Try.prog.cellsOf 30) = some [.string x.name, .int .i64 x.p]) (fun i hi => by
      obtain ⟨cs, n, x, h1, h2⟩ := hx i hi
      obtain ⟨c, hf, rfl⟩ := trod_mrk h2
      exact ⟨c, hf, h1⟩)
    have hlen : ((List.range len).map V).length = len := by simp
    refine ⟨some a, (List.range len).map V, cap, by rw [hlen], fun k hk => ?_, fun x hx => ?_, by rw [hlen]; omega⟩
    · have hk' : k < len := by rw [hlen] at hk; exact hk
      have h1 := (hV k hk').2
      rw [cells_mrk] at h1
      obtain ⟨_, hc⟩ := cells_get h1
      have hbl : (a.add (k * 2)).block = a.block := by unfold Addr.add; split <;> rfl
      have q0 := hc 0 (by simp)
      have q1 := hc 1 (by simp)
      refine ⟨a, rfl, ?_, ?_, ?_⟩
      · have := World.block_lt_of_cell? w _ q0
        rwa [show ((a.add (k * 2)).add 0).block = (a.add (k * 2)).block by unfold Addr.add; simp, hbl] at this
      · simpa [Addr.add] using q0
      · simpa [Addr.add] using q1
    · obtain ⟨i, hi, rfl⟩ := List.mem_map.1 hx
      exact (hV i (List.mem_range.1 hi)).1
end

/-- The cells of such a row, one behind the other. -/
def Mrk.flat (l : List Mrk) : List Value := l.flatMap fun x => [.string x.name, .int .i64 x.p]
theorem Mrk.flat_len (l : List Mrk) : (Mrk.flat l).length = l.length * 2 := by
  unfold Mrk.flat
  induction l with
  | nil => rfl
  | cons a r ih => rw [List.flatMap_cons, List.length_append, ih]; simp; omega
theorem Mrk.flat_app (a b : List Mrk) : Mrk.flat (a ++ b) = Mrk.flat a ++ Mrk.flat b := by simp [Mrk.flat]
theorem Mrk.flat_get (l : List Mrk) (k : Nat) (h : k < l.length) : (Mrk.flat l)[k * 2]? = some (.string (l[k]'h).name) ∧ (Mrk.flat l)[k * 2 + 1]? = some (.int .i64 (l[k]'h).p) := by
  induction l generalizing k with
  | nil => simp at h
  | cons a r ih =>
    have e : Mrk.flat (a :: r) = ([.string a.name, .int .i64 a.p] : List Value) ++ Mrk.flat r := by simp [Mrk.flat]
    rw [e]
    match k, h with
    | 0, _ => simp
    | k + 1, h =>
      have hr := ih k (by simpa using h)
      rw [show (k + 1) * 2 = ([.string a.name, .int .i64 a.p] : List Value).length + k * 2 from by simp; omega]
      simp only [Nat.add_assoc, List.getElem?_append_right (Nat.le_add_right _ _), Nat.add_sub_cancel_left]
      exact hr
theorem mrk_info : (Try.prog.info? 30).map (fun i => (i.zero, i.size, i.bytes)) = some (some (.agg #[.string ByteArray.empty, .int .i64 0]), 2, 24) := by kernel_rfl
/-- One laid in a block of its own, to be appended. -/
theorem news_mrk (w : World) (name : ByteArray) (p : Int) (t : TypeId) : ∀ j u, ([.string name, .int .i64 p] : List Value)[j]? = some u → (w.alloc (.cells #[.string name, .int .i64 p] t)).cell? ((⟨w.heap.size, 0, none⟩ : Addr).add j) = some u := by
  intro j u hj
  match j, hj with
  | 0, hj => simp at hj; subst hj; simp [Addr.add]
  | 1, hj => simp at hj; subst hj; simp [Addr.add, World.cell?_alloc_new]
theorem one_mrk (name : ByteArray) (p : Int) : ∀ u ∈ ([.string name, .int .i64 p] : List Value), u.oneCell' = true := by
  intro u hu
  simp at hu
  rcases hu with rfl | rfl <;> rfl
theorem own_mrks {w : World} {base : Nat} {t : TypeId} {v : Value} {l : List Mrk} (h : w.ownsRow base t 2 v l.length (Mrk.flat l)) : ∃ a c, v = .slice a l.length c ∧ Mrks w (fun b => base ≤ b ∧ b < w.heap.size) a l := by
  rcases h.2 with ⟨rfl, h0⟩ | ⟨g, cap, cur, rfl, hgb, hg, _⟩
  · exact ⟨none, 0, by rw [h0], fun k hk => absurd hk (by omega)⟩
  · refine ⟨_, _, rfl, fun k hk => ⟨_, rfl, ⟨hgb, (h.lt g rfl).2⟩, ?_, ?_⟩⟩
    · exact h.cells (g := g) rfl (k * 2) _ (Mrk.flat_get l k hk).1
    · have := h.cells (g := g) rfl (k * 2 + 1) _ (Mrk.flat_get l k hk).2
      have e : (⟨((⟨g, 0, none⟩ : Addr).add (k * 2)).block, ((⟨g, 0, none⟩ : Addr).add (k * 2)).off + 1, none⟩ : Addr) = (⟨g, 0, none⟩ : Addr).add (k * 2 + 1) := by
        unfold Addr.add
        by_cases hk0 : k * 2 = 0 <;> simp [hk0]
      rw [e]; exact this
def RetMrks (w : World) (l : List Mrk) (e : Ending) (w' : World) : Prop := ∃ a c, e = .returned (.slice a l.length c) ∧ Mrks w' (fun b => w.heap.size ≤ b ∧ b < w'.heap.size) a l ∧ Below w.heap.size w w'
end Go.Proofs.Ytimlfgjljnkbcaa
