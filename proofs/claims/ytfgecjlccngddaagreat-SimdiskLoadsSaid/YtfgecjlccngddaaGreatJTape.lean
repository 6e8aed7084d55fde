/-
  Joined: Tape7.
-/
import Derived.Test.YtfgecjlccngddaaGreatJOpen
namespace Go.Proofs.YtfgecjlccngddaaGreat
set_option linter.unusedSimpArgs false
set_option linter.unusedVariables false
open Go.RowKit Go.ChangeShapes Go.WideShapes Go.Deep
set_option linter.unusedVariables false

structure Tp where
  k : ByteArray
  n : ByteArray
def Tp.fits (x : Tp) : Prop := x.k.size ≤ maxLen ∧ x.n.size ≤ maxLen
/-- Its value. -/
abbrev Tp.v (x : Tp) : Value := .agg #[.string x.k, .string x.n]
/-- A slice that reads as these; its row's block is one of these. -/
def Tps (w : World) (B : Nat → Prop) (a : Option Addr) (l : List Tp) : Prop :=
  ∀ (k : Nat) (h : k < l.length), ∃ ad, a = some ad ∧ B ad.block ∧ w.cell? (ad.add (k * 2)) = some (.string (l[k]).k) ∧ w.cell? ⟨(ad.add (k * 2)).block, (ad.add (k * 2)).off + 1, none⟩ = some (.string (l[k]).n)
theorem Tps.keep {w w' : World} {B : Nat → Prop} {a : Option Addr} {l : List Tp} (h : Tps w B a l) (hk : ∀ p : Addr, B p.block → w'.cell? p = w.cell? p) : Tps w' B a l := fun k hl => by
  obtain ⟨ad, e, hb, q0, q1⟩ := h k hl
  exact ⟨ad, e, hb, (hk _ (by rw [show (ad.add (k * 2)).block = ad.block by unfold Addr.add; split <;> rfl]; exact hb)).trans q0, (hk _ (by show B (ad.add (k * 2)).block; rw [show (ad.add (k * 2)).block = ad.block by unfold Addr.add; split <;> rfl]; exact hb)).trans q1⟩
theorem Tps.below {w w' : World} {B : Nat → Prop} {N : Nat} {a : Option Addr} {l : List Tp} (h : Tps w B a l) (hN : ∀ b, B b → b < N) (hb : Below N w w') : Tps w' B a l := h.keep fun _ hp => hb.cell (hN _ hp)
theorem Tps.more {w : World} {B B' : Nat → Prop} {a : Option Addr} {l : List Tp} (h : Tps w B a l) (hB : ∀ b, B b → B' b) : Tps w B' a l := fun k hl => by
  obtain ⟨ad, e, hb, h1⟩ := h k hl
  exact ⟨ad, e, hB _ hb, h1⟩
theorem Tps.set {w : World} {B : Nat → Prop} {a : Option Addr} {l : List Tp} (h : Tps w B a l) {p : Addr} {x : Option Addr} {y z : Nat} (hc : w.cell? p = some (.slice x y z)) (u : Value) : Tps (w.setCell p u) B a l := fun k hl => by
  obtain ⟨ad, e, hb, q0, q1⟩ := h k hl
  exact ⟨ad, e, hb, (World.cell?_setCell_other _ _ _ _ (fun e => by rw [e] at hc; rw [hc] at q0; cases q0)).trans q0, (World.cell?_setCell_other _ _ _ _ (fun e => by rw [e] at hc; rw [hc] at q1; cases q1)).trans q1⟩
theorem Tps.mk {w : World} {B : Nat → Prop} {a : Addr} {l : List Tp} (hb : B a.block) (h : ∀ k (hk : k < l.length) j (hj : j < 2), w.cell? ((a.add (k * 2)).add j) = #[.string (l[k]).k, .string (l[k]).n][j]?) : Tps w B (some a) l := fun k hk => by
  have hbl : (a.add (k * 2)).block = a.block := by unfold Addr.add; split <;> rfl
  refine ⟨a, rfl, hb, ?_, ?_⟩
  · have := h k hk 0 (by omega)
    simpa [Addr.add] using this
  · have := h k hk 1 (by omega)
    simpa [Addr.add] using this

section
variable {H : Type} {enc : TypeId × Value → H} {w : World} {base : Nat} {spare : Nat → Bool} {held : Bool}
theorem cells_tp : Tryz.prog.cellsOf 104 = 2 := by kernel_rfl
set_option maxRecDepth 100000 in
theorem trod_tp {n : Nat} {cs : List Value} {x : DataW H × List MemPlace} (h : DataW.trod enc Tryz.prog w base spare held n 104 cs = some x) :
    ∃ x : Tp, x.fits ∧ cs = [.string x.k, .string x.n] := by
  obtain ⟨hl, hf⟩ := open_fields Tryz.underlying104 (by kernel_rfl) h
  rw [cells_tp] at hl
  obtain ⟨u0, u1, rfl⟩ : ∃ u0 u1, cs = [u0, u1] := by
    match cs, hl with
    | [u0, u1], _ => exact ⟨u0, u1, rfl⟩
  obtain ⟨m0, y0, h0⟩ := hf 0 _ (by simp) rfl
  obtain ⟨x0, e0, _, w0⟩ := DataW.trod_string Tryz.underlying9 h0
  have g0 : u0 = .string x0 := by simpa using e0
  obtain ⟨m1, y1, h1⟩ := hf 1 _ (by simp) rfl
  obtain ⟨x1, e1, _, w1⟩ := DataW.trod_string Tryz.underlying9 h1
  have g1 : u1 = .string x1 := by simpa using e1
  subst g0 g1
  exact ⟨⟨x0, x1⟩, ⟨w0, w1⟩, rfl⟩
set_option maxRecDepth 100000 in
theorem open_tp {r : Reach} {b0 : Nat} {v : Value} {d : DataW H} {p : List MemPlace} (hv : Value.okWide Tryz.prog w r b0 104 v) (h : DataW.Trod enc Tryz.prog w base spare held 104 v d p) (_ : ∀ x ∈ p, x.block < w.heap.size) :
    ∃ x : Tp, v = x.v ∧ x.fits := by
  obtain ⟨cs, rfl, _⟩ := okWide_struct Tryz.underlying104 hv
  obtain ⟨n, hn⟩ := h
  obtain ⟨x, hc, he⟩ := trod_tp hn
  refine ⟨x, ?_, hc⟩
  have : cs.toList = [.string x.k, .string x.n] := by simpa [Value.cells] using he
  show Value.agg cs = _
  rw [show cs = #[.string x.k, .string x.n] from Array.toList_inj.1 this]
set_option maxRecDepth 100000 in
theorem open_tps {r : Reach} {b0 : Nat} {v : Value} {d : DataW H} {p : List MemPlace} (hv : Value.okWide Tryz.prog w r b0 27 v) (h : DataW.Trod enc Tryz.prog w base spare held 27 v d p) (_ : ∀ x ∈ p, x.block < w.heap.size) :
    ∃ (a : Option Addr) (l : List Tp) (c : Nat), v = .slice a l.length c ∧ Tps w (· < w.heap.size) a l ∧ (∀ x ∈ l, x.fits) ∧ l.length ≤ maxLen := by
  rcases open_row Tryz.underlying27 hv h with rfl | ⟨a, len, cap, rfl, hlc, hcm, hx⟩
  · exact ⟨none, [], 0, rfl, fun k hk => absurd hk (by simp), fun x hx => absurd hx (by simp), Nat.zero_le _⟩
  · haveI : Inhabited Tp := ⟨⟨ByteArray.empty, ByteArray.empty⟩⟩
    obtain ⟨V, hV⟩ := choose_lt (α := Tp) (p := fun i x => x.fits ∧ w.cells? base (a.add (i * Tryz.prog.cellsOf 104)) (Tryz.prog.cellsOf 104) = some [.string x.k, .string x.n]) (fun i hi => by
      obtain ⟨cs, n, x, h1, h2⟩ := hx i hi
      obtain ⟨c, hf, rfl⟩ := trod_tp h2
      exact ⟨c, hf, h1⟩)
    have hlen : ((List.range len).map V).length = len := by simp
    refine ⟨some a, (List.range len).map V, cap, by rw [hlen], fun k hk => ?_, fun x hx => ?_, by rw [hlen]; omega⟩
    · have hk' : k < len := by rw [hlen] at hk; exact hk
      have h1 := (hV k hk').2
      rw [cells_tp] at h1
      obtain ⟨_, hc⟩ := cells_get h1
      have hbl : (a.add (k * 2)).block = a.block := by unfold Addr.add; split <;> rfl
      have q0 := hc 0 (by simp)
      have q1 := hc 1 (by simp)
      refine ⟨a, rfl, ?_, ?_, ?_⟩
      · have := World.block_lt_of_cell? w _ q0
        rwa [show ((a.add (k * 2)).add 0).block = (a.add (k * 2)).block by unfold Addr.add; simp, hbl] at this
      · simpa [Addr.add] using q0
      · simpa [Addr.add] using q1
    · obtain ⟨i, hi, rfl⟩ := List.mem_map.1 hx
      exact (hV i (List.mem_range.1 hi)).1
end

/-- The cells of such a row, one behind the other. -/
def Tp.flat (l : List Tp) : List Value := l.flatMap fun x => [.string x.k, .string x.n]
theorem Tp.flat_len (l : List Tp) : (Tp.flat l).length = l.length * 2 := by
  unfold Tp.flat
  induction l with
  | nil => rfl
  | cons a r ih => rw [List.flatMap_cons, List.length_append, ih]; simp; omega
theorem Tp.flat_app (a b : List Tp) : Tp.flat (a ++ b) = Tp.flat a ++ Tp.flat b := by simp [Tp.flat]
theorem Tp.flat_get (l : List Tp) (k : Nat) (h : k < l.length) : (Tp.flat l)[k * 2]? = some (.string (l[k]'h).k) ∧ (Tp.flat l)[k * 2 + 1]? = some (.string (l[k]'h).n) := by
  induction l generalizing k with
  | nil => simp at h
  | cons a r ih =>
    have e : Tp.flat (a :: r) = ([.string a.k, .string a.n] : List Value) ++ Tp.flat r := by simp [Tp.flat]
    rw [e]
    match k, h with
    | 0, _ => simp
    | k + 1, h =>
      have hr := ih k (by simpa using h)
      rw [show (k + 1) * 2 = ([.string a.k, .string a.n] : List Value).length + k * 2 from by simp; omega]
      simp only [Nat.add_assoc, List.getElem?_append_right (Nat.le_add_right _ _), Nat.add_sub_cancel_left]
      exact hr
theorem tp_info : (Tryz.prog.info? 104).map (fun i => (i.zero, i.size, i.bytes)) = some (some (.agg #[.string ByteArray.empty, .string ByteArray.empty]), 2, 32) := by kernel_rfl
/-- One laid in a block of its own, to be appended. -/
theorem news_tp (w : World) (k : ByteArray) (n : ByteArray) (t : TypeId) : ∀ j u, ([.string k, .string n] : List Value)[j]? = some u → (w.alloc (.cells #[.string k, .string n] t)).cell? ((⟨w.heap.size, 0, none⟩ : Addr).add j) = some u := by
  intro j u hj
  match j, hj with
  | 0, hj => simp at hj; subst hj; simp [Addr.add]
  | 1, hj => simp at hj; subst hj; simp [Addr.add, World.cell?_alloc_new]
theorem one_tp (k : ByteArray) (n : ByteArray) : ∀ u ∈ ([.string k, .string n] : List Value), u.oneCell' = true := by
  intro u hu
  simp at hu
  rcases hu with rfl | rfl <;> rfl
theorem own_tps {w : World} {base : Nat} {t : TypeId} {v : Value} {l : List Tp} (h : w.ownsRow base t 2 v l.length (Tp.flat l)) : ∃ a c, v = .slice a l.length c ∧ Tps w (fun b => base ≤ b ∧ b < w.heap.size) a l := by
  rcases h.2 with ⟨rfl, h0⟩ | ⟨g, cap, cur, rfl, hgb, hg, _⟩
  · exact ⟨none, 0, by rw [h0], fun k hk => absurd hk (by omega)⟩
  · refine ⟨_, _, rfl, fun k hk => ⟨_, rfl, ⟨hgb, (h.lt g rfl).2⟩, ?_, ?_⟩⟩
    · exact h.cells (g := g) rfl (k * 2) _ (Tp.flat_get l k hk).1
    · have := h.cells (g := g) rfl (k * 2 + 1) _ (Tp.flat_get l k hk).2
      have e : (⟨((⟨g, 0, none⟩ : Addr).add (k * 2)).block, ((⟨g, 0, none⟩ : Addr).add (k * 2)).off + 1, none⟩ : Addr) = (⟨g, 0, none⟩ : Addr).add (k * 2 + 1) := by
        unfold Addr.add
        by_cases hk0 : k * 2 = 0 <;> simp [hk0]
      rw [e]; exact this
def RetTps (w : World) (l : List Tp) (e : Ending) (w' : World) : Prop := ∃ a c, e = .returned (.slice a l.length c) ∧ Tps w' (fun b => w.heap.size ≤ b ∧ b < w'.heap.size) a l ∧ Below w.heap.size w w'
end Go.Proofs.YtfgecjlccngddaaGreat
