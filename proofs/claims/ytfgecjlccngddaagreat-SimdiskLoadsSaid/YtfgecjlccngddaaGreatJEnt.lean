/-
  Joined: Ent, File, FoldMath, OpenD11.
-/
import Derived.Test.YtfgecjlccngddaaGreatJOpen
namespace Go.Proofs.YtfgecjlccngddaaGreat
set_option linter.unusedSimpArgs false
set_option linter.unusedVariables false
open Go.RowKit Go.ChangeShapes Go.WideShapes Go.Deep
set_option linter.unusedVariables false

structure Ent where
  name : ByteArray
  id : Int
def Ent.fits (x : Ent) : Prop := x.name.size ≤ maxLen ∧ (-9223372036854775808 ≤ x.id ∧ x.id ≤ 9223372036854775807)
/-- Its value. -/
abbrev Ent.v (x : Ent) : Value := .agg #[.string x.name, .int .i64 x.id]
/-- A slice that reads as these; its row's block is one of these. -/
def Ents (w : World) (B : Nat → Prop) (a : Option Addr) (l : List Ent) : Prop :=
  ∀ (k : Nat) (h : k < l.length), ∃ ad, a = some ad ∧ B ad.block ∧ w.cell? (ad.add (k * 2)) = some (.string (l[k]).name) ∧ w.cell? ⟨(ad.add (k * 2)).block, (ad.add (k * 2)).off + 1, none⟩ = some (.int .i64 (l[k]).id)
theorem Ents.keep {w w' : World} {B : Nat → Prop} {a : Option Addr} {l : List Ent} (h : Ents w B a l) (hk : ∀ p : Addr, B p.block → w'.cell? p = w.cell? p) : Ents w' B a l := fun k hl => by
  obtain ⟨ad, e, hb, q0, q1⟩ := h k hl
  exact ⟨ad, e, hb, (hk _ (by rw [show (ad.add (k * 2)).block = ad.block by unfold Addr.add; split <;> rfl]; exact hb)).trans q0, (hk _ (by show B (ad.add (k * 2)).block; rw [show (ad.add (k * 2)).block = ad.block by unfold Addr.add; split <;> rfl]; exact hb)).trans q1⟩
theorem Ents.below {w w' : World} {B : Nat → Prop} {N : Nat} {a : Option Addr} {l : List Ent} (h : Ents w B a l) (hN : ∀ b, B b → b < N) (hb : Below N w w') : Ents w' B a l := h.keep fun _ hp => hb.cell (hN _ hp)
theorem Ents.more {w : World} {B B' : Nat → Prop} {a : Option Addr} {l : List Ent} (h : Ents w B a l) (hB : ∀ b, B b → B' b) : Ents w B' a l := fun k hl => by
  obtain ⟨ad, e, hb, h1⟩ := h k hl
  exact ⟨ad, e, hB _ hb, h1⟩
theorem Ents.set {w : World} {B : Nat → Prop} {a : Option Addr} {l : List Ent} (h : Ents w B a l) {p : Addr} {x : Option Addr} {y z : Nat} (hc : w.cell? p = some (.slice x y z)) (u : Value) : Ents (w.setCell p u) B a l := fun k hl => by
  obtain ⟨ad, e, hb, q0, q1⟩ := h k hl
  exact ⟨ad, e, hb, (World.cell?_setCell_other _ _ _ _ (fun e => by rw [e] at hc; rw [hc] at q0; cases q0)).trans q0, (World.cell?_setCell_other _ _ _ _ (fun e => by rw [e] at hc; rw [hc] at q1; cases q1)).trans q1⟩
theorem Ents.mk {w : World} {B : Nat → Prop} {a : Addr} {l : List Ent} (hb : B a.block) (h : ∀ k (hk : k < l.length) j (hj : j < 2), w.cell? ((a.add (k * 2)).add j) = #[.string (l[k]).name, .int .i64 (l[k]).id][j]?) : Ents w B (some a) l := fun k hk => by
  have hbl : (a.add (k * 2)).block = a.block := by unfold Addr.add; split <;> rfl
  refine ⟨a, rfl, hb, ?_, ?_⟩
  · have := h k hk 0 (by omega)
    simpa [Addr.add] using this
  · have := h k hk 1 (by omega)
    simpa [Addr.add] using this

section
variable {H : Type} {enc : TypeId × Value → H} {w : World} {base : Nat} {spare : Nat → Bool} {held : Bool}
theorem cells_ent : Tryz.prog.cellsOf 160 = 2 := by kernel_rfl
set_option maxRecDepth 100000 in
theorem trod_ent {n : Nat} {cs : List Value} {x : DataW H × List MemPlace} (h : DataW.trod enc Tryz.prog w base spare held n 160 cs = some x) :
    ∃ x : Ent, x.fits ∧ cs = [.string x.name, .int .i64 x.id] := by
  obtain ⟨hl, hf⟩ := open_fields Tryz.underlying160 (by kernel_rfl) h
  rw [cells_ent] at hl
  obtain ⟨u0, u1, rfl⟩ : ∃ u0 u1, cs = [u0, u1] := by
    match cs, hl with
    | [u0, u1], _ => exact ⟨u0, u1, rfl⟩
  obtain ⟨m0, y0, h0⟩ := hf 0 _ (by simp) rfl
  obtain ⟨x0, e0, _, w0⟩ := DataW.trod_string Tryz.underlying9 h0
  have g0 : u0 = .string x0 := by simpa using e0
  obtain ⟨m1, y1, h1⟩ := hf 1 _ (by simp) rfl
  obtain ⟨x1, e1, _, w1⟩ := DataW.trod_int Tryz.underlying3 h1
  have g1 : u1 = .int .i64 x1 := by simpa using e1
  subst g0 g1
  exact ⟨⟨x0, x1⟩, ⟨w0, bounds_i64 w1⟩, rfl⟩
set_option maxRecDepth 100000 in
theorem open_ent {r : Reach} {b0 : Nat} {v : Value} {d : DataW H} {p : List MemPlace} (hv : Value.okWide Tryz.prog w r b0 160 v) (h : DataW.Trod enc Tryz.prog w base spare held 160 v d p) (_ : ∀ x ∈ p, x.block < w.heap.size) :
    ∃ x : Ent, v = x.v ∧ x.fits := by
  obtain ⟨cs, rfl, _⟩ := okWide_struct Tryz.underlying160 hv
  obtain ⟨n, hn⟩ := h
  obtain ⟨x, hc, he⟩ := trod_ent hn
  refine ⟨x, ?_, hc⟩
  have : cs.toList = [.string x.name, .int .i64 x.id] := by simpa [Value.cells] using he
  show Value.agg cs = _
  rw [show cs = #[.string x.name, .int .i64 x.id] from Array.toList_inj.1 this]
set_option maxRecDepth 100000 in
theorem open_ents {r : Reach} {b0 : Nat} {v : Value} {d : DataW H} {p : List MemPlace} (hv : Value.okWide Tryz.prog w r b0 158 v) (h : DataW.Trod enc Tryz.prog w base spare held 158 v d p) (_ : ∀ x ∈ p, x.block < w.heap.size) :
    ∃ (a : Option Addr) (l : List Ent) (c : Nat), v = .slice a l.length c ∧ Ents w (· < w.heap.size) a l ∧ (∀ x ∈ l, x.fits) ∧ l.length ≤ maxLen := by
  rcases open_row Tryz.underlying158 hv h with rfl | ⟨a, len, cap, rfl, hlc, hcm, hx⟩
  · exact ⟨none, [], 0, rfl, fun k hk => absurd hk (by simp), fun x hx => absurd hx (by simp), Nat.zero_le _⟩
  · haveI : Inhabited Ent := ⟨⟨ByteArray.empty, 0⟩⟩
    obtain ⟨V, hV⟩ := choose_lt (α := Ent) (p := fun i x => x.fits ∧ w.cells? base (a.add (i * Tryz.prog.cellsOf 160)) (Tryz.prog.cellsOf 160) = some [.string x.name, .int .i64 x.id]) (fun i hi => by
      obtain ⟨cs, n, x, h1, h2⟩ := hx i hi
      obtain ⟨c, hf, rfl⟩ := trod_ent h2
      exact ⟨c, hf, h1⟩)
    have hlen : ((List.range len).map V).length = len := by simp
    refine ⟨some a, (List.range len).map V, cap, by rw [hlen], fun k hk => ?_, fun x hx => ?_, by rw [hlen]; omega⟩
    · have hk' : k < len := by rw [hlen] at hk; exact hk
      have h1 := (hV k hk').2
      rw [cells_ent] at h1
      obtain ⟨_, hc⟩ := cells_get h1
      have hbl : (a.add (k * 2)).block = a.block := by unfold Addr.add; split <;> rfl
      have q0 := hc 0 (by simp)
      have q1 := hc 1 (by simp)
      refine ⟨a, rfl, ?_, ?_, ?_⟩
      · have := World.block_lt_of_cell? w _ q0
        rwa [show ((a.add (k * 2)).add 0).block = (a.add (k * 2)).block by unfold Addr.add; simp, hbl] at this
      · simpa [Addr.add] using q0
      · simpa [Addr.add] using q1
    · obtain ⟨i, hi, rfl⟩ := List.mem_map.1 hx
      exact (hV i (List.mem_range.1 hi)).1
end

/-- The cells of such a row, one behind the other. -/
def Ent.flat (l : List Ent) : List Value := l.flatMap fun x => [.string x.name, .int .i64 x.id]
theorem Ent.flat_len (l : List Ent) : (Ent.flat l).length = l.length * 2 := by
  unfold Ent.flat
  induction l with
  | nil => rfl
  | cons a r ih => rw [List.flatMap_cons, List.length_append, ih]; simp; omega
theorem Ent.flat_app (a b : List Ent) : Ent.flat (a ++ b) = Ent.flat a ++ Ent.flat b := by simp [Ent.flat]
theorem Ent.flat_get (l : List Ent) (k : Nat) (h : k < l.length) : (Ent.flat l)[k * 2]? = some (.string (l[k]'h).name) ∧ (Ent.flat l)[k * 2 + 1]? = some (.int .i64 (l[k]'h).id) := by
  induction l generalizing k with
  | nil => simp at h
  | cons a r ih =>
    have e : Ent.flat (a :: r) = ([.string a.name, .int .i64 a.id] : List Value) ++ Ent.flat r := by simp [Ent.flat]
    rw [e]
    match k, h with
    | 0, _ => simp
    | k + 1, h =>
      have hr := ih k (by simpa using h)
      rw [show (k + 1) * 2 = ([.string a.name, .int .i64 a.id] : List Value).length + k * 2 from by simp; omega]
      simp only [Nat.add_assoc, List.getElem?_append_right (Nat.le_add_right _ _), Nat.add_sub_cancel_left]
      exact hr
theorem ent_info : (Tryz.prog.info? 160).map (fun i => (i.zero, i.size, i.bytes)) = some (some (.agg #[.string ByteArray.empty, .int .i64 0]), 2, 24) := by kernel_rfl
/-- One laid in a block of its own, to be appended. -/
theorem news_ent (w : World) (name : ByteArray) (id : Int) (t : TypeId) : ∀ j u, ([.string name, .int .i64 id] : List Value)[j]? = some u → (w.alloc (.cells #[.string name, .int .i64 id] t)).cell? ((⟨w.heap.size, 0, none⟩ : Addr).add j) = some u := by
  intro j u hj
  match j, hj with
  | 0, hj => simp at hj; subst hj; simp [Addr.add]
  | 1, hj => simp at hj; subst hj; simp [Addr.add, World.cell?_alloc_new]
theorem one_ent (name : ByteArray) (id : Int) : ∀ u ∈ ([.string name, .int .i64 id] : List Value), u.oneCell' = true := by
  intro u hu
  simp at hu
  rcases hu with rfl | rfl <;> rfl
theorem own_ents {w : World} {base : Nat} {t : TypeId} {v : Value} {l : List Ent} (h : w.ownsRow base t 2 v l.length (Ent.flat l)) : ∃ a c, v = .slice a l.length c ∧ Ents w (fun b => base ≤ b ∧ b < w.heap.size) a l := by
  rcases h.2 with ⟨rfl, h0⟩ | ⟨g, cap, cur, rfl, hgb, hg, _⟩
  · exact ⟨none, 0, by rw [h0], fun k hk => absurd hk (by omega)⟩
  · refine ⟨_, _, rfl, fun k hk => ⟨_, rfl, ⟨hgb, (h.lt g rfl).2⟩, ?_, ?_⟩⟩
    · exact h.cells (g := g) rfl (k * 2) _ (Ent.flat_get l k hk).1
    · have := h.cells (g := g) rfl (k * 2 + 1) _ (Ent.flat_get l k hk).2
      have e : (⟨((⟨g, 0, none⟩ : Addr).add (k * 2)).block, ((⟨g, 0, none⟩ : Addr).add (k * 2)).off + 1, none⟩ : Addr) = (⟨g, 0, none⟩ : Addr).add (k * 2 + 1) := by
        unfold Addr.add
        by_cases hk0 : k * 2 = 0 <;> simp [hk0]
      rw [e]; exact this
def RetEnts (w : World) (l : List Ent) (e : Ending) (w' : World) : Prop := ∃ a c, e = .returned (.slice a l.length c) ∧ Ents w' (fun b => w.heap.size ≤ b ∧ b < w'.heap.size) a l ∧ Below w.heap.size w w'
end Go.Proofs.YtfgecjlccngddaaGreat
namespace Go.Proofs.YtfgecjlccngddaaGreat
set_option linter.unusedSimpArgs false
set_option linter.unusedVariables false
open Go.RowKit Go.ChangeShapes Go.WideShapes Go.Deep
set_option linter.unusedVariables false

structure Fil where
  name : ByteArray
  data : ByteArray
def Fil.fits (x : Fil) : Prop := x.name.size ≤ maxLen ∧ x.data.size ≤ maxLen
/-- Its value. -/
abbrev Fil.v (x : Fil) : Value := .agg #[.string x.name, .string x.data]
/-- A slice that reads as these; its row's block is one of these. -/
def Fils (w : World) (B : Nat → Prop) (a : Option Addr) (l : List Fil) : Prop :=
  ∀ (k : Nat) (h : k < l.length), ∃ ad, a = some ad ∧ B ad.block ∧ w.cell? (ad.add (k * 2)) = some (.string (l[k]).name) ∧ w.cell? ⟨(ad.add (k * 2)).block, (ad.add (k * 2)).off + 1, none⟩ = some (.string (l[k]).data)
theorem Fils.keep {w w' : World} {B : Nat → Prop} {a : Option Addr} {l : List Fil} (h : Fils w B a l) (hk : ∀ p : Addr, B p.block → w'.cell? p = w.cell? p) : Fils w' B a l := fun k hl => by
  obtain ⟨ad, e, hb, q0, q1⟩ := h k hl
  exact ⟨ad, e, hb, (hk _ (by rw [show (ad.add (k * 2)).block = ad.block by unfold Addr.add; split <;> rfl]; exact hb)).trans q0, (hk _ (by show B (ad.add (k * 2)).block; rw [show (ad.add (k * 2)).block = ad.block by unfold Addr.add; split <;> rfl]; exact hb)).trans q1⟩
theorem Fils.below {w w' : World} {B : Nat → Prop} {N : Nat} {a : Option Addr} {l : List Fil} (h : Fils w B a l) (hN : ∀ b, B b → b < N) (hb : Below N w w') : Fils w' B a l := h.keep fun _ hp => hb.cell (hN _ hp)
theorem Fils.more {w : World} {B B' : Nat → Prop} {a : Option Addr} {l : List Fil} (h : Fils w B a l) (hB : ∀ b, B b → B' b) : Fils w B' a l := fun k hl => by
  obtain ⟨ad, e, hb, h1⟩ := h k hl
  exact ⟨ad, e, hB _ hb, h1⟩
theorem Fils.set {w : World} {B : Nat → Prop} {a : Option Addr} {l : List Fil} (h : Fils w B a l) {p : Addr} {x : Option Addr} {y z : Nat} (hc : w.cell? p = some (.slice x y z)) (u : Value) : Fils (w.setCell p u) B a l := fun k hl => by
  obtain ⟨ad, e, hb, q0, q1⟩ := h k hl
  exact ⟨ad, e, hb, (World.cell?_setCell_other _ _ _ _ (fun e => by rw [e] at hc; rw [hc] at q0; cases q0)).trans q0, (World.cell?_setCell_other _ _ _ _ (fun e => by rw [e] at hc; rw [hc] at q1; cases q1)).trans q1⟩
theorem Fils.mk {w : World} {B : Nat → Prop} {a : Addr} {l : List Fil} (hb : B a.block) (h : ∀ k (hk : k < l.length) j (hj : j < 2), w.cell? ((a.add (k * 2)).add j) = #[.string (l[k]).name, .string (l[k]).data][j]?) : Fils w B (some a) l := fun k hk => by
  have hbl : (a.add (k * 2)).block = a.block := by unfold Addr.add; split <;> rfl
  refine ⟨a, rfl, hb, ?_, ?_⟩
  · have := h k hk 0 (by omega)
    simpa [Addr.add] using this
  · have := h k hk 1 (by omega)
    simpa [Addr.add] using this

section
variable {H : Type} {enc : TypeId × Value → H} {w : World} {base : Nat} {spare : Nat → Bool} {held : Bool}
theorem cells_fil : Tryz.prog.cellsOf 52 = 2 := by kernel_rfl
set_option maxRecDepth 100000 in
theorem trod_fil {n : Nat} {cs : List Value} {x : DataW H × List MemPlace} (h : DataW.trod enc Tryz.prog w base spare held n 52 cs = some x) :
    ∃ x : Fil, x.fits ∧ cs = [.string x.name, .string x.data] := by
  obtain ⟨hl, hf⟩ := open_fields Tryz.underlying52 (by kernel_rfl) h
  rw [cells_fil] at hl
  obtain ⟨u0, u1, rfl⟩ : ∃ u0 u1, cs = [u0, u1] := by
    match cs, hl with
    | [u0, u1], _ => exact ⟨u0, u1, rfl⟩
  obtain ⟨m0, y0, h0⟩ := hf 0 _ (by simp) rfl
  obtain ⟨x0, e0, _, w0⟩ := DataW.trod_string Tryz.underlying9 h0
  have g0 : u0 = .string x0 := by simpa using e0
  obtain ⟨m1, y1, h1⟩ := hf 1 _ (by simp) rfl
  obtain ⟨x1, e1, _, w1⟩ := DataW.trod_string Tryz.underlying9 h1
  have g1 : u1 = .string x1 := by simpa using e1
  subst g0 g1
  exact ⟨⟨x0, x1⟩, ⟨w0, w1⟩, rfl⟩
set_option maxRecDepth 100000 in
theorem open_fil {r : Reach} {b0 : Nat} {v : Value} {d : DataW H} {p : List MemPlace} (hv : Value.okWide Tryz.prog w r b0 52 v) (h : DataW.Trod enc Tryz.prog w base spare held 52 v d p) (_ : ∀ x ∈ p, x.block < w.heap.size) :
    ∃ x : Fil, v = x.v ∧ x.fits := by
  obtain ⟨cs, rfl, _⟩ := okWide_struct Tryz.underlying52 hv
  obtain ⟨n, hn⟩ := h
  obtain ⟨x, hc, he⟩ := trod_fil hn
  refine ⟨x, ?_, hc⟩
  have : cs.toList = [.string x.name, .string x.data] := by simpa [Value.cells] using he
  show Value.agg cs = _
  rw [show cs = #[.string x.name, .string x.data] from Array.toList_inj.1 this]
set_option maxRecDepth 100000 in
theorem open_fils {r : Reach} {b0 : Nat} {v : Value} {d : DataW H} {p : List MemPlace} (hv : Value.okWide Tryz.prog w r b0 50 v) (h : DataW.Trod enc Tryz.prog w base spare held 50 v d p) (_ : ∀ x ∈ p, x.block < w.heap.size) :
    ∃ (a : Option Addr) (l : List Fil) (c : Nat), v = .slice a l.length c ∧ Fils w (· < w.heap.size) a l ∧ (∀ x ∈ l, x.fits) ∧ l.length ≤ maxLen := by
  rcases open_row Tryz.underlying50 hv h with rfl | ⟨a, len, cap, rfl, hlc, hcm, hx⟩
  · exact ⟨none, [], 0, rfl, fun k hk => absurd hk (by simp), fun x hx => absurd hx (by simp), Nat.zero_le _⟩
  · haveI : Inhabited Fil := ⟨⟨ByteArray.empty, ByteArray.empty⟩⟩
    obtain ⟨V, hV⟩ := choose_lt (α := Fil) (p := fun i x => x.fits ∧ w.cells? base (a.add (i * Tryz.prog.cellsOf 52)) (Tryz.prog.cellsOf 52) = some [.string x.name, .string x.data]) (fun i hi => by
      obtain ⟨cs, n, x, h1, h2⟩ := hx i hi
      obtain ⟨c, hf, rfl⟩ := trod_fil h2
      exact ⟨c, hf, h1⟩)
    have hlen : ((List.range len).map V).length = len := by simp
    refine ⟨some a, (List.range len).map V, cap, by rw [hlen], fun k hk => ?_, fun x hx => ?_, by rw [hlen]; omega⟩
    · have hk' : k < len := by rw [hlen] at hk; exact hk
      have h1 := (hV k hk').2
      rw [cells_fil] at h1
      obtain ⟨_, hc⟩ := cells_get h1
      have hbl : (a.add (k * 2)).block = a.block := by unfold Addr.add; split <;> rfl
      have q0 := hc 0 (by simp)
      have q1 := hc 1 (by simp)
      refine ⟨a, rfl, ?_, ?_, ?_⟩
      · have := World.block_lt_of_cell? w _ q0
        rwa [show ((a.add (k * 2)).add 0).block = (a.add (k * 2)).block by unfold Addr.add; simp, hbl] at this
      · simpa [Addr.add] using q0
      · simpa [Addr.add] using q1
    · obtain ⟨i, hi, rfl⟩ := List.mem_map.1 hx
      exact (hV i (List.mem_range.1 hi)).1
end

/-- The cells of such a row, one behind the other. -/
def Fil.flat (l : List Fil) : List Value := l.flatMap fun x => [.string x.name, .string x.data]
theorem Fil.flat_len (l : List Fil) : (Fil.flat l).length = l.length * 2 := by
  unfold Fil.flat
  induction l with
  | nil => rfl
  | cons a r ih => rw [List.flatMap_cons, List.length_append, ih]; simp; omega
theorem Fil.flat_app (a b : List Fil) : Fil.flat (a ++ b) = Fil.flat a ++ Fil.flat b := by simp [Fil.flat]
theorem Fil.flat_get (l : List Fil) (k : Nat) (h : k < l.length) : (Fil.flat l)[k * 2]? = some (.string (l[k]'h).name) ∧ (Fil.flat l)[k * 2 + 1]? = some (.string (l[k]'h).data) := by
  induction l generalizing k with
  | nil => simp at h
  | cons a r ih =>
    have e : Fil.flat (a :: r) = ([.string a.name, .string a.data] : List Value) ++ Fil.flat r := by simp [Fil.flat]
    rw [e]
    match k, h with
    | 0, _ => simp
    | k + 1, h =>
      have hr := ih k (by simpa using h)
      rw [show (k + 1) * 2 = ([.string a.name, .string a.data] : List Value).length + k * 2 from by simp; omega]
      simp only [Nat.add_assoc, List.getElem?_append_right (Nat.le_add_right _ _), Nat.add_sub_cancel_left]
      exact hr
theorem fil_info : (Tryz.prog.info? 52).map (fun i => (i.zero, i.size, i.bytes)) = some (some (.agg #[.string ByteArray.empty, .string ByteArray.empty]), 2, 32) := by kernel_rfl
/-- One laid in a block of its own, to be appended. -/
theorem news_fil (w : World) (name : ByteArray) (data : ByteArray) (t : TypeId) : ∀ j u, ([.string name, .string data] : List Value)[j]? = some u → (w.alloc (.cells #[.string name, .string data] t)).cell? ((⟨w.heap.size, 0, none⟩ : Addr).add j) = some u := by
  intro j u hj
  match j, hj with
  | 0, hj => simp at hj; subst hj; simp [Addr.add]
  | 1, hj => simp at hj; subst hj; simp [Addr.add, World.cell?_alloc_new]
theorem one_fil (name : ByteArray) (data : ByteArray) : ∀ u ∈ ([.string name, .string data] : List Value), u.oneCell' = true := by
  intro u hu
  simp at hu
  rcases hu with rfl | rfl <;> rfl
theorem own_fils {w : World} {base : Nat} {t : TypeId} {v : Value} {l : List Fil} (h : w.ownsRow base t 2 v l.length (Fil.flat l)) : ∃ a c, v = .slice a l.length c ∧ Fils w (fun b => base ≤ b ∧ b < w.heap.size) a l := by
  rcases h.2 with ⟨rfl, h0⟩ | ⟨g, cap, cur, rfl, hgb, hg, _⟩
  · exact ⟨none, 0, by rw [h0], fun k hk => absurd hk (by omega)⟩
  · refine ⟨_, _, rfl, fun k hk => ⟨_, rfl, ⟨hgb, (h.lt g rfl).2⟩, ?_, ?_⟩⟩
    · exact h.cells (g := g) rfl (k * 2) _ (Fil.flat_get l k hk).1
    · have := h.cells (g := g) rfl (k * 2 + 1) _ (Fil.flat_get l k hk).2
      have e : (⟨((⟨g, 0, none⟩ : Addr).add (k * 2)).block, ((⟨g, 0, none⟩ : Addr).add (k * 2)).off + 1, none⟩ : Addr) = (⟨g, 0, none⟩ : Addr).add (k * 2 + 1) := by
        unfold Addr.add
        by_cases hk0 : k * 2 = 0 <;> simp [hk0]
      rw [e]; exact this
def RetFils (w : World) (l : List Fil) (e : Ending) (w' : World) : Prop := ∃ a c, e = .returned (.slice a l.length c) ∧ Fils w' (fun b => w.heap.size ≤ b ∧ b < w'.heap.size) a l ∧ Below w.heap.size w w'
end Go.Proofs.YtfgecjlccngddaaGreat
namespace Go.Proofs.YtfgecjlccngddaaGreat
set_option linter.unusedSimpArgs false
set_option linter.unusedVariables false
open Go.RowKit
set_option linter.unusedVariables false

theorem take_get {α : Type} (l : List α) (k : Nat) (h : k < l.length) : l.take (k + 1) = l.take k ++ [l[k]] := by
  rw [List.take_succ_eq_append_getElem h]
def nmB (s : ByteArray) (e : Ent) : Bool := decide (e.name = s)
def findE (l : List Ent) (s : ByteArray) : Option Int := (l.find? (nmB s)).map (·.id)
def withoutE (l : List Ent) (s : ByteArray) : List Ent := l.filter fun e => !nmB s e
/-- Is the entry's name behind s? -/
def gtB (s : ByteArray) (e : Ent) : Bool := !(Op.bytesLess e.name.toList s.toList || e.name.toList == s.toList)
def withS (x : Ent) (p : List Ent × Bool) (e : Ent) : List Ent × Bool := if p.2 = false ∧ gtB x.name e = true then (p.1 ++ [x] ++ [e], true) else (p.1 ++ [e], p.2)
def withK (l : List Ent) (x : Ent) (k : Nat) : List Ent × Bool := (l.take k).foldl (withS x) ([], false)
def withE (l : List Ent) (x : Ent) : List Ent := if (withK l x l.length).2 = true then (withK l x l.length).1 else (withK l x l.length).1 ++ [x]
theorem withK_succ (l : List Ent) (x : Ent) (k : Nat) (h : k < l.length) : withK l x (k + 1) = withS x (withK l x k) l[k] := by
  unfold withK
  rw [take_get l k h, List.foldl_append]
  rfl
theorem withK_len (l : List Ent) (x : Ent) (k : Nat) (h : k ≤ l.length) : (withK l x k).1.length = k + (if (withK l x k).2 = true then 1 else 0) := by
  induction k with
  | zero => rfl
  | succ k ih =>
    have := ih (by omega)
    rw [withK_succ l x k (by omega)]
    unfold withS
    split
    · rename_i h2
      rw [h2.1] at this
      simp at this ⊢
      omega
    · simp
      omega
theorem withE_len (l : List Ent) (x : Ent) : (withE l x).length = l.length + 1 := by
  have := withK_len l x l.length (Nat.le_refl _)
  unfold withE
  split
  · rename_i h; rw [if_pos h] at this; exact this
  · rename_i h; rw [if_neg h] at this; rw [List.length_append, this]; rfl
theorem withoutE_len (l : List Ent) (s : ByteArray) : (withoutE l s).length ≤ l.length := List.length_filter_le _ _
theorem findE_none (l : List Ent) (s : ByteArray) (k : Nat) (h : k < l.length) (h1 : (l.take k).find? (nmB s) = none) (h2 : ¬ l[k].name = s) : (l.take (k + 1)).find? (nmB s) = none := by
  rw [take_get l k h, List.find?_append, h1]
  simp [nmB, h2]
theorem findE_some (l : List Ent) (s : ByteArray) (k : Nat) (h : k < l.length) (h1 : (l.take k).find? (nmB s) = none) (h2 : l[k].name = s) : findE l s = some l[k].id := by
  have e : l.find? (nmB s) = some l[k] := by
    have e := congrArg (List.find? (nmB s)) (show l.take k ++ l[k] :: l.drop (k + 1) = l by simp)
    rw [List.find?_append, h1] at e
    rw [← e, Option.none_or, List.find?_cons_of_pos (by simp [nmB, h2])]
  unfold findE
  rw [e]
  rfl
theorem withoutE_same (l : List Ent) (s : ByteArray) (k : Nat) (h : k < l.length) (h2 : l[k].name = s) : withoutE (l.take (k + 1)) s = withoutE (l.take k) s := by
  unfold withoutE
  rw [take_get l k h, List.filter_append]
  simp [nmB, h2]
theorem withoutE_more (l : List Ent) (s : ByteArray) (k : Nat) (h : k < l.length) (h2 : ¬ l[k].name = s) : withoutE (l.take (k + 1)) s = withoutE (l.take k) s ++ [l[k]] := by
  unfold withoutE
  rw [take_get l k h, List.filter_append]
  simp [nmB, h2]
/-- A rising list of numbers with a number more, once. -/
def addS (n : Int) (p : List Int × Bool) (e : Int) : List Int × Bool := if p.2 = false ∧ n < e then (p.1 ++ [n] ++ [e], true) else (p.1 ++ [e], p.2)
def addK (l : List Int) (n : Int) (k : Nat) : List Int × Bool := (l.take k).foldl (addS n) ([], false)
def addI (l : List Int) (n : Int) : List Int := if n ∈ l then l else if (addK l n l.length).2 = true then (addK l n l.length).1 else (addK l n l.length).1 ++ [n]
theorem addK_succ (l : List Int) (n : Int) (k : Nat) (h : k < l.length) : addK l n (k + 1) = addS n (addK l n k) l[k] := by
  unfold addK
  rw [take_get l k h, List.foldl_append]
  rfl
theorem addK_len (l : List Int) (n : Int) (k : Nat) (h : k ≤ l.length) : (addK l n k).1.length ≤ k + 1 ∧ ((addK l n k).2 = false → (addK l n k).1.length = k) := by
  induction k with
  | zero => exact ⟨by simp [addK], fun _ => rfl⟩
  | succ k ih =>
    have := ih (by omega)
    rw [addK_succ l n k (by omega)]
    unfold addS
    split
    · rename_i h2
      have := this.2 h2.1
      simp
      omega
    · simp
      omega
theorem addI_len (l : List Int) (n : Int) : (addI l n).length ≤ l.length + 1 := by
  have := addK_len l n l.length (Nat.le_refl _)
  unfold addI
  split
  · omega
  · split
    · exact this.1
    · rename_i h
      have := this.2 (by simpa using h)
      simp [this]
def idsK (L : List (List Ent)) : List Int := L.foldl (fun o l => l.foldl (fun o e => addI o e.id) o) []
end Go.Proofs.YtfgecjlccngddaaGreat
namespace Go.Proofs.YtfgecjlccngddaaGreat
set_option linter.unusedSimpArgs false
set_option linter.unusedVariables false
open Go.RowKit Go.ChangeShapes Go.WideShapes Go.Deep
set_option linter.unusedVariables false

structure Op11 where
  k : Int
  n : Int
  s : ByteArray
  t : ByteArray
  fk : Int
  fn : Int
def Op11.fits (x : Op11) : Prop := (-9223372036854775808 ≤ x.k ∧ x.k ≤ 9223372036854775807) ∧ (-9223372036854775808 ≤ x.n ∧ x.n ≤ 9223372036854775807) ∧ x.s.size ≤ maxLen ∧ x.t.size ≤ maxLen ∧ (-9223372036854775808 ≤ x.fk ∧ x.fk ≤ 9223372036854775807) ∧ (-9223372036854775808 ≤ x.fn ∧ x.fn ≤ 9223372036854775807)
/-- Its value. -/
abbrev Op11.v (x : Op11) : Value := .agg #[.int .i64 x.k, .int .i64 x.n, .string x.s, .string x.t, .int .i64 x.fk, .int .i64 x.fn]
/-- A slice that reads as these; its row's block is one of these. -/
def Op11s (w : World) (B : Nat → Prop) (a : Option Addr) (l : List Op11) : Prop :=
  ∀ (k : Nat) (h : k < l.length), ∃ ad, a = some ad ∧ B ad.block ∧ w.cell? (ad.add (k * 6)) = some (.int .i64 (l[k]).k) ∧ w.cell? ⟨(ad.add (k * 6)).block, (ad.add (k * 6)).off + 1, none⟩ = some (.int .i64 (l[k]).n) ∧ w.cell? ⟨(ad.add (k * 6)).block, (ad.add (k * 6)).off + 2, none⟩ = some (.string (l[k]).s) ∧ w.cell? ⟨(ad.add (k * 6)).block, (ad.add (k * 6)).off + 3, none⟩ = some (.string (l[k]).t) ∧ w.cell? ⟨(ad.add (k * 6)).block, (ad.add (k * 6)).off + 4, none⟩ = some (.int .i64 (l[k]).fk) ∧ w.cell? ⟨(ad.add (k * 6)).block, (ad.add (k * 6)).off + 5, none⟩ = some (.int .i64 (l[k]).fn)
theorem Op11s.keep {w w' : World} {B : Nat → Prop} {a : Option Addr} {l : List Op11} (h : Op11s w B a l) (hk : ∀ p : Addr, B p.block → w'.cell? p = w.cell? p) : Op11s w' B a l := fun k hl => by
  obtain ⟨ad, e, hb, q0, q1, q2, q3, q4, q5⟩ := h k hl
  exact ⟨ad, e, hb, (hk _ (by rw [show (ad.add (k * 6)).block = ad.block by unfold Addr.add; split <;> rfl]; exact hb)).trans q0, (hk _ (by show B (ad.add (k * 6)).block; rw [show (ad.add (k * 6)).block = ad.block by unfold Addr.add; split <;> rfl]; exact hb)).trans q1, (hk _ (by show B (ad.add (k * 6)).block; rw [show (ad.add (k * 6)).block = ad.block by unfold Addr.add; split <;> rfl]; exact hb)).trans q2, (hk _ (by show B (ad.add (k * 6)).block; rw [show (ad.add (k * 6)).block = ad.block by unfold Addr.add; split <;> rfl]; exact hb)).trans q3, (hk _ (by show B (ad.add (k * 6)).block; rw [show (ad.add (k * 6)).block = ad.block by unfold Addr.add; split <;> rfl]; exact hb)).trans q4, (hk _ (by show B (ad.add (k * 6)).block; rw [show (ad.add (k * 6)).block = ad.block by unfold Addr.add; split <;> rfl]; exact hb)).trans q5⟩
theorem Op11s.below {w w' : World} {B : Nat → Prop} {N : Nat} {a : Option Addr} {l : List Op11} (h : Op11s w B a l) (hN : ∀ b, B b → b < N) (hb : Below N w w') : Op11s w' B a l := h.keep fun _ hp => hb.cell (hN _ hp)
theorem Op11s.more {w : World} {B B' : Nat → Prop} {a : Option Addr} {l : List Op11} (h : Op11s w B a l) (hB : ∀ b, B b → B' b) : Op11s w B' a l := fun k hl => by
  obtain ⟨ad, e, hb, h1⟩ := h k hl
  exact ⟨ad, e, hB _ hb, h1⟩
theorem Op11s.set {w : World} {B : Nat → Prop} {a : Option Addr} {l : List Op11} (h : Op11s w B a l) {p : Addr} {x : Option Addr} {y z : Nat} (hc : w.cell? p = some (.slice x y z)) (u : Value) : Op11s (w.setCell p u) B a l := fun k hl => by
  obtain ⟨ad, e, hb, q0, q1, q2, q3, q4, q5⟩ := h k hl
  exact ⟨ad, e, hb, (World.cell?_setCell_other _ _ _ _ (fun e => by rw [e] at hc; rw [hc] at q0; cases q0)).trans q0, (World.cell?_setCell_other _ _ _ _ (fun e => by rw [e] at hc; rw [hc] at q1; cases q1)).trans q1, (World.cell?_setCell_other _ _ _ _ (fun e => by rw [e] at hc; rw [hc] at q2; cases q2)).trans q2, (World.cell?_setCell_other _ _ _ _ (fun e => by rw [e] at hc; rw [hc] at q3; cases q3)).trans q3, (World.cell?_setCell_other _ _ _ _ (fun e => by rw [e] at hc; rw [hc] at q4; cases q4)).trans q4, (World.cell?_setCell_other _ _ _ _ (fun e => by rw [e] at hc; rw [hc] at q5; cases q5)).trans q5⟩
theorem Op11s.mk {w : World} {B : Nat → Prop} {a : Addr} {l : List Op11} (hb : B a.block) (h : ∀ k (hk : k < l.length) j (hj : j < 6), w.cell? ((a.add (k * 6)).add j) = #[.int .i64 (l[k]).k, .int .i64 (l[k]).n, .string (l[k]).s, .string (l[k]).t, .int .i64 (l[k]).fk, .int .i64 (l[k]).fn][j]?) : Op11s w B (some a) l := fun k hk => by
  refine ⟨a, rfl, hb, ?_, ?_, ?_, ?_, ?_, ?_⟩
  · have := h k hk 0 (by omega)
    simpa [Addr.add] using this
  · have := h k hk 1 (by omega)
    simpa [Addr.add] using this
  · have := h k hk 2 (by omega)
    simpa [Addr.add] using this
  · have := h k hk 3 (by omega)
    simpa [Addr.add] using this
  · have := h k hk 4 (by omega)
    simpa [Addr.add] using this
  · have := h k hk 5 (by omega)
    simpa [Addr.add] using this

section
variable {H : Type} {enc : TypeId × Value → H} {w : World} {base : Nat} {spare : Nat → Bool} {held : Bool}
set_option maxRecDepth 100000 in
theorem cells_fault11 : Tryz.prog.cellsOf 38 = 2 := by kernel_rfl
set_option maxRecDepth 100000 in
theorem cells_op11 : Tryz.prog.cellsOf 40 = 6 := by kernel_rfl
set_option maxRecDepth 100000 in
theorem trod_fault11 {n : Nat} {cs : List Value} {x : DataW H × List MemPlace} (h : DataW.trod enc Tryz.prog w base spare held n 38 cs = some x) :
    ∃ k i : Int, ((-9223372036854775808 ≤ k ∧ k ≤ 9223372036854775807) ∧ (-9223372036854775808 ≤ i ∧ i ≤ 9223372036854775807)) ∧ cs = [.int .i64 k, .int .i64 i] := by
  obtain ⟨hl, hf⟩ := open_fields Tryz.underlying38 (by kernel_rfl) h
  rw [cells_fault11] at hl
  obtain ⟨u0, u1, rfl⟩ : ∃ u0 u1, cs = [u0, u1] := by
    match cs, hl with
    | [u0, u1], _ => exact ⟨u0, u1, rfl⟩
  obtain ⟨m0, y0, h0⟩ := hf 0 _ (by simp) rfl
  obtain ⟨m1, y1, h1⟩ := hf 1 _ (by simp) rfl
  obtain ⟨k, e0, _, w0⟩ := DataW.trod_int Tryz.underlying3 h0
  obtain ⟨i, e1, _, w1⟩ := DataW.trod_int Tryz.underlying3 h1
  have g0 : u0 = .int .i64 k := by simpa using e0
  have g1 : u1 = .int .i64 i := by simpa using e1
  subst g0 g1
  exact ⟨k, i, ⟨bounds_i64 w0, bounds_i64 w1⟩, rfl⟩
set_option maxRecDepth 100000 in
theorem trod_op11 {n : Nat} {cs : List Value} {x : DataW H × List MemPlace} (h : DataW.trod enc Tryz.prog w base spare held n 40 cs = some x) :
    ∃ x : Op11, x.fits ∧ cs = [.int .i64 x.k, .int .i64 x.n, .string x.s, .string x.t, .int .i64 x.fk, .int .i64 x.fn] := by
  obtain ⟨xs, m, _, _, hl, hxl, hf⟩ := DataW.trod_struct Tryz.underlying40 h
  rw [cells_op11] at hl
  obtain ⟨u0, u1, u2, u3, u4, u5, rfl⟩ : ∃ u0 u1 u2 u3 u4 u5, cs = [u0, u1, u2, u3, u4, u5] := by
    match cs, hl with
    | [u0, u1, u2, u3, u4, u5], _ => exact ⟨u0, u1, u2, u3, u4, u5, rfl⟩
  have hx2 : xs.length = 5 := hxl
  have h0 := hf 0 _ rfl
  have h1 := hf 1 _ rfl
  have h2 := hf 2 _ rfl
  have h3 := hf 3 _ rfl
  have h4 := hf 4 _ rfl
  rw [List.getElem?_eq_getElem (by omega)] at h0 h1 h2 h3 h4
  have c1 : Tryz.prog.cellsOf 3 = 1 := by kernel_rfl
  have c2 : Tryz.prog.cellsOf 9 = 1 := by kernel_rfl
  have h0' : DataW.trod enc Tryz.prog w base spare held m 3 [u0] = some xs[0] := by simpa [c1] using h0
  have h1' : DataW.trod enc Tryz.prog w base spare held m 3 [u1] = some xs[1] := by simpa [c1] using h1
  have h2' : DataW.trod enc Tryz.prog w base spare held m 9 [u2] = some xs[2] := by simpa [c1, c2] using h2
  have h3' : DataW.trod enc Tryz.prog w base spare held m 9 [u3] = some xs[3] := by simpa [c1, c2] using h3
  have h4' : DataW.trod enc Tryz.prog w base spare held m 38 [u4, u5] = some xs[4] := by simpa [c1, c2, cells_fault11] using h4
  obtain ⟨x0, e0, _, w0⟩ := DataW.trod_int Tryz.underlying3 h0'
  obtain ⟨x1, e1, _, w1⟩ := DataW.trod_int Tryz.underlying3 h1'
  obtain ⟨x2, e2, _, w2⟩ := DataW.trod_string Tryz.underlying9 h2'
  obtain ⟨x3, e3, _, w3⟩ := DataW.trod_string Tryz.underlying9 h3'
  obtain ⟨fk, fn, hb, e4⟩ := trod_fault11 h4'
  have g0 : u0 = .int .i64 x0 := by simpa using e0
  have g1 : u1 = .int .i64 x1 := by simpa using e1
  have g2 : u2 = .string x2 := by simpa using e2
  have g3 : u3 = .string x3 := by simpa using e3
  have g4 : u4 = .int .i64 fk ∧ u5 = .int .i64 fn := by simpa using e4
  obtain ⟨rfl, rfl⟩ := g4
  subst g0 g1 g2 g3
  exact ⟨⟨x0, x1, x2, x3, fk, fn⟩, ⟨bounds_i64 w0, bounds_i64 w1, w2, w3, hb.1, hb.2⟩, rfl⟩
set_option maxRecDepth 100000 in
theorem open_op11s {r : Reach} {b0 : Nat} {v : Value} {d : DataW H} {p : List MemPlace} (hv : Value.okWide Tryz.prog w r b0 22 v) (h : DataW.Trod enc Tryz.prog w base spare held 22 v d p) (_ : ∀ x ∈ p, x.block < w.heap.size) :
    ∃ (a : Option Addr) (l : List Op11) (c : Nat), v = .slice a l.length c ∧ Op11s w (· < w.heap.size) a l ∧ (∀ x ∈ l, x.fits) ∧ l.length ≤ maxLen := by
  rcases open_row Tryz.underlying22 hv h with rfl | ⟨a, len, cap, rfl, hlc, hcm, hx⟩
  · exact ⟨none, [], 0, rfl, fun k hk => absurd hk (by simp), fun x hx => absurd hx (by simp), Nat.zero_le _⟩
  · haveI : Inhabited Op11 := ⟨⟨0, 0, ByteArray.empty, ByteArray.empty, 0, 0⟩⟩
    obtain ⟨V, hV⟩ := choose_lt (α := Op11) (p := fun i x => x.fits ∧ w.cells? base (a.add (i * Tryz.prog.cellsOf 40)) (Tryz.prog.cellsOf 40) = some [.int .i64 x.k, .int .i64 x.n, .string x.s, .string x.t, .int .i64 x.fk, .int .i64 x.fn]) (fun i hi => by
      obtain ⟨cs, n, x, h1, h2⟩ := hx i hi
      obtain ⟨c, hf, rfl⟩ := trod_op11 h2
      exact ⟨c, hf, h1⟩)
    have hlen : ((List.range len).map V).length = len := by simp
    refine ⟨some a, (List.range len).map V, cap, by rw [hlen], fun k hk => ?_, fun x hx => ?_, by rw [hlen]; omega⟩
    · have hk' : k < len := by rw [hlen] at hk; exact hk
      have h1 := (hV k hk').2
      rw [cells_op11] at h1
      obtain ⟨_, hc⟩ := cells_get h1
      have hbl : (a.add (k * 6)).block = a.block := by unfold Addr.add; split <;> rfl
      have q0 := hc 0 (by simp)
      have q1 := hc 1 (by simp)
      have q2 := hc 2 (by simp)
      have q3 := hc 3 (by simp)
      have q4 := hc 4 (by simp)
      have q5 := hc 5 (by simp)
      refine ⟨a, rfl, ?_, ?_, ?_, ?_, ?_, ?_, ?_⟩
      · have := World.block_lt_of_cell? w _ q0
        rwa [show ((a.add (k * 6)).add 0).block = (a.add (k * 6)).block by unfold Addr.add; simp, hbl] at this
      · simpa [Addr.add] using q0
      · simpa [Addr.add] using q1
      · simpa [Addr.add] using q2
      · simpa [Addr.add] using q3
      · simpa [Addr.add] using q4
      · simpa [Addr.add] using q5
    · obtain ⟨i, hi, rfl⟩ := List.mem_map.1 hx
      exact (hV i (List.mem_range.1 hi)).1
end
end Go.Proofs.YtfgecjlccngddaaGreat
