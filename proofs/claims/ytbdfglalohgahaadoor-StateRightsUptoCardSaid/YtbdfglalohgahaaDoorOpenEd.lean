/-
  A struct of one-cell fields as it comes in, by value and in rows. (Written by gen_struct.py.)
-/
import Derived.Test.YtbdfglalohgahaaDoorOpen
namespace Go.Proofs.YtbdfglalohgahaaDoor
open Go.RowKit Go.ChangeShapes Go.WideShapes Go.Deep
set_option linter.unusedVariables false

structure Edt where
  p : Int
  o : ByteArray
  n : ByteArray
def Edt.fits (x : Edt) : Prop := (-9223372036854775808 ≤ x.p ∧ x.p ≤ 9223372036854775807) ∧ x.o.size ≤ maxLen ∧ x.n.size ≤ maxLen
/-- Its value. -/
abbrev Edt.v (x : Edt) : Value := .agg #[.int .i64 x.p, .string x.o, .string x.n]
/-- A slice that reads as these; its row's block is one of these. -/
def Edts (w : World) (B : Nat → Prop) (a : Option Addr) (l : List Edt) : Prop :=
  ∀ (k : Nat) (h : k < l.length), ∃ ad, a = some ad ∧ B ad.block ∧ w.cell? (ad.add (k * 3)) = some (.int .i64 (l[k]).p) ∧ w.cell? ⟨(ad.add (k * 3)).block, (ad.add (k * 3)).off + 1, none⟩ = some (.string (l[k]).o) ∧ w.cell? ⟨(ad.add (k * 3)).block, (ad.add (k * 3)).off + 2, none⟩ = some (.string (l[k]).n)
theorem Edts.keep {w w' : World} {B : Nat → Prop} {a : Option Addr} {l : List Edt} (h : Edts w B a l) (hk : ∀ p : Addr, B p.block → w'.cell? p = w.cell? p) : Edts w' B a l := fun k hl => by
  obtain ⟨ad, e, hb, q0, q1, q2⟩ := h k hl
  exact ⟨ad, e, hb, (hk _ (by rw [show (ad.add (k * 3)).block = ad.block by unfold Addr.add; split <;> rfl]; exact hb)).trans q0, (hk _ (by show B (ad.add (k * 3)).block; rw [show (ad.add (k * 3)).block = ad.block by unfold Addr.add; split <;> rfl]; exact hb)).trans q1, (hk _ (by show B (ad.add (k * 3)).block; rw [show (ad.add (k * 3)).block = ad.block by unfold Addr.add; split <;> rfl]; exact hb)).trans q2⟩
theorem Edts.below {w w' : World} {B : Nat → Prop} {N : Nat} {a : Option Addr} {l : List Edt} (h : Edts w B a l) (hN : ∀ b, B b → b < N) (hb : Below N w w') : Edts w' B a l := h.keep fun _ hp => hb.cell (hN _ hp)
theorem Edts.more {w : World} {B B' : Nat → Prop} {a : Option Addr} {l : List Edt} (h : Edts w B a l) (hB : ∀ b, B b → B' b) : Edts w B' a l := fun k hl => by
  obtain ⟨ad, e, hb, h1⟩ := h k hl
  exact ⟨ad, e, hB _ hb, h1⟩
theorem Edts.set {w : World} {B : Nat → Prop} {a : Option Addr} {l : List Edt} (h : Edts w B a l) {p : Addr} {x : Option Addr} {y z : Nat} (hc : w.cell? p = some (.slice x y z)) (u : Value) : Edts (w.setCell p u) B a l := fun k hl => by
  obtain ⟨ad, e, hb, q0, q1, q2⟩ := h k hl
  exact ⟨ad, e, hb, (World.cell?_setCell_other _ _ _ _ (fun e => by rw [e] at hc; rw [hc] at q0; cases q0)).trans q0, (World.cell?_setCell_other _ _ _ _ (fun e => by rw [e] at hc; rw [hc] at q1; cases q1)).trans q1, (World.cell?_setCell_other _ _ _ _ (fun e => by rw [e] at hc; rw [hc] at q2; cases q2)).trans q2⟩
theorem Edts.mk {w : World} {B : Nat → Prop} {a : Addr} {l : List Edt} (hb : B a.block) (h : ∀ k (hk : k < l.length) j (hj : j < 3), w.cell? ((a.add (k * 3)).add j) = #[.int .i64 (l[k]).p, .string (l[k]).o, .string (l[k]).n][j]?) : Edts w B (some a) l := fun k hk => by
  have hbl : (a.add (k * 3)).block = a.block := by unfold Addr.add; split <;> rfl
  refine ⟨a, rfl, hb, ?_, ?_, ?_⟩
  · have := h k hk 0 (by omega)
    simpa [Addr.add] using this
  · have := h k hk 1 (by omega)
    simpa [Addr.add] using this
  · have := h k hk 2 (by omega)
    simpa [Addr.add] using this

section
variable {H : Type} {enc : TypeId × Value → H} {w : World} {base : Nat} {spare : Nat → Bool} {held : Bool}
theorem cells_edt : Tryd.prog.cellsOf 36 = 3 := by kernel_rfl
set_option maxRecDepth 100000 in
theorem trod_edt {n : Nat} {cs : List Value} {x : DataW H × List MemPlace} (h : DataW.trod enc Tryd.prog w base spare held n 36 cs = some x) :
    ∃ x : Edt, x.fits ∧ cs = [.int .i64 x.p, .string x.o, .string x.n] := by
  obtain ⟨hl, hf⟩ := open_fields Tryd.underlying36 (by kernel_rfl) h
  rw [cells_edt] at hl
  obtain ⟨u0, u1, u2, rfl⟩ : ∃ u0 u1 u2, cs = [u0, u1, u2] := by
    match cs, hl with
    | [u0, u1, u2], _ => exact ⟨u0, u1, u2, rfl⟩
  obtain ⟨m0, y0, h0⟩ := hf 0 _ (by simp) rfl
  obtain ⟨x0, e0, _, w0⟩ := DataW.trod_int Tryd.underlying3 h0
  have g0 : u0 = .int .i64 x0 := by simpa using e0
  obtain ⟨m1, y1, h1⟩ := hf 1 _ (by simp) rfl
  obtain ⟨x1, e1, _, w1⟩ := DataW.trod_string Tryd.underlying9 h1
  have g1 : u1 = .string x1 := by simpa using e1
  obtain ⟨m2, y2, h2⟩ := hf 2 _ (by simp) rfl
  obtain ⟨x2, e2, _, w2⟩ := DataW.trod_string Tryd.underlying9 h2
  have g2 : u2 = .string x2 := by simpa using e2
  subst g0 g1 g2
  exact ⟨⟨x0, x1, x2⟩, ⟨bounds_i64 w0, w1, w2⟩, rfl⟩
set_option maxRecDepth 100000 in
theorem open_edt {r : Reach} {b0 : Nat} {v : Value} {d : DataW H} {p : List MemPlace} (hv : Value.okWide Tryd.prog w r b0 36 v) (h : DataW.Trod enc Tryd.prog w base spare held 36 v d p) (_ : ∀ x ∈ p, x.block < w.heap.size) :
    ∃ x : Edt, v = x.v ∧ x.fits := by
  obtain ⟨cs, rfl, _⟩ := okWide_struct Tryd.underlying36 hv
  obtain ⟨n, hn⟩ := h
  obtain ⟨x, hc, he⟩ := trod_edt hn
  refine ⟨x, ?_, hc⟩
  have : cs.toList = [.int .i64 x.p, .string x.o, .string x.n] := by simpa [Value.cells] using he
  show Value.agg cs = _
  rw [show cs = #[.int .i64 x.p, .string x.o, .string x.n] from Array.toList_inj.1 this]
set_option maxRecDepth 100000 in
theorem open_edts {r : Reach} {b0 : Nat} {v : Value} {d : DataW H} {p : List MemPlace} (hv : Value.okWide Tryd.prog w r b0 24 v) (h : DataW.Trod enc Tryd.prog w base spare held 24 v d p) (_ : ∀ x ∈ p, x.block < w.heap.size) :
    ∃ (a : Option Addr) (l : List Edt) (c : Nat), v = .slice a l.length c ∧ Edts w (· < w.heap.size) a l ∧ (∀ x ∈ l, x.fits) ∧ l.length ≤ maxLen := by
  rcases open_row Tryd.underlying24 hv h with rfl | ⟨a, len, cap, rfl, hlc, hcm, hx⟩
  · exact ⟨none, [], 0, rfl, fun k hk => absurd hk (by simp), fun x hx => absurd hx (by simp), Nat.zero_le _⟩
  · haveI : Inhabited Edt := ⟨⟨0, ByteArray.empty, ByteArray.empty⟩⟩
    obtain ⟨V, hV⟩ := choose_lt (α := Edt) (p := fun i x => x.fits ∧ w.cells? base (a.add (i * Tryd.prog.cellsOf 36)) (Tryd.prog.cellsOf 36) = some [.int .i64 x.p, .string x.o, .string x.n]) (fun i hi => by
      obtain ⟨cs, n, x, h1, h2⟩ := hx i hi
      obtain ⟨c, hf, rfl⟩ := trod_edt h2
      exact ⟨c, hf, h1⟩)
    have hlen : ((List.range len).map V).length = len := by simp
    refine ⟨some a, (List.range len).map V, cap, by rw [hlen], fun k hk => ?_, fun x hx => ?_, by rw [hlen]; omega⟩
    · have hk' : k < len := by rw [hlen] at hk; exact hk
      have h1 := (hV k hk').2
      rw [cells_edt] at h1
      obtain ⟨_, hc⟩ := cells_get h1
      have hbl : (a.add (k * 3)).block = a.block := by unfold Addr.add; split <;> rfl
      have q0 := hc 0 (by simp)
      have q1 := hc 1 (by simp)
      have q2 := hc 2 (by simp)
      refine ⟨a, rfl, ?_, ?_, ?_, ?_⟩
      · have := World.block_lt_of_cell? w _ q0
        rwa [show ((a.add (k * 3)).add 0).block = (a.add (k * 3)).block by unfold Addr.add; simp, hbl] at this
      · simpa [Addr.add] using q0
      · simpa [Addr.add] using q1
      · simpa [Addr.add] using q2
    · obtain ⟨i, hi, rfl⟩ := List.mem_map.1 hx
      exact (hV i (List.mem_range.1 hi)).1
end

/-- The cells of such a row, one behind the other. -/
def Edt.flat (l : List Edt) : List Value := l.flatMap fun x => [.int .i64 x.p, .string x.o, .string x.n]
theorem Edt.flat_len (l : List Edt) : (Edt.flat l).length = l.length * 3 := by
  unfold Edt.flat
  induction l with
  | nil => rfl
  | cons a r ih => rw [List.flatMap_cons, List.length_append, ih]; simp; omega
theorem Edt.flat_app (a b : List Edt) : Edt.flat (a ++ b) = Edt.flat a ++ Edt.flat b := by simp [Edt.flat]
theorem Edt.flat_get (l : List Edt) (k : Nat) (h : k < l.length) : (Edt.flat l)[k * 3]? = some (.int .i64 (l[k]'h).p) ∧ (Edt.flat l)[k * 3 + 1]? = some (.string (l[k]'h).o) ∧ (Edt.flat l)[k * 3 + 2]? = some (.string (l[k]'h).n) := by
  induction l generalizing k with
  | nil => simp at h
  | cons a r ih =>
    have e : Edt.flat (a :: r) = ([.int .i64 a.p, .string a.o, .string a.n] : List Value) ++ Edt.flat r := by simp [Edt.flat]
    rw [e]
    match k, h with
    | 0, _ => simp
    | k + 1, h =>
      have hr := ih k (by simpa using h)
      rw [show (k + 1) * 3 = ([.int .i64 a.p, .string a.o, .string a.n] : List Value).length + k * 3 from by simp; omega]
      simp only [Nat.add_assoc, List.getElem?_append_right (Nat.le_add_right _ _), Nat.add_sub_cancel_left]
      exact hr
theorem edt_info : (Tryd.prog.info? 36).map (fun i => (i.zero, i.size, i.bytes)) = some (some (.agg #[.int .i64 0, .string ByteArray.empty, .string ByteArray.empty]), 3, 40) := by kernel_rfl
/-- One laid in a block of its own, to be appended. -/
theorem news_edt (w : World) (p : Int) (o : ByteArray) (n : ByteArray) (t : TypeId) : ∀ j u, ([.int .i64 p, .string o, .string n] : List Value)[j]? = some u → (w.alloc (.cells #[.int .i64 p, .string o, .string n] t)).cell? ((⟨w.heap.size, 0, none⟩ : Addr).add j) = some u := by
  intro j u hj
  match j, hj with
  | 0, hj => simp at hj; subst hj; simp [Addr.add]
  | 1, hj => simp at hj; subst hj; simp [Addr.add, World.cell?_alloc_new]
  | 2, hj => simp at hj; subst hj; simp [Addr.add, World.cell?_alloc_new]
theorem one_edt (p : Int) (o : ByteArray) (n : ByteArray) : ∀ u ∈ ([.int .i64 p, .string o, .string n] : List Value), u.oneCell' = true := by
  intro u hu
  simp at hu
  rcases hu with rfl | rfl | rfl <;> rfl
theorem own_edts {w : World} {base : Nat} {t : TypeId} {v : Value} {l : List Edt} (h : w.ownsRow base t 3 v l.length (Edt.flat l)) : ∃ a c, v = .slice a l.length c ∧ Edts w (fun b => base ≤ b ∧ b < w.heap.size) a l := by
  rcases h.2 with ⟨rfl, h0⟩ | ⟨g, cap, cur, rfl, hgb, hg, _⟩
  · exact ⟨none, 0, by rw [h0], fun k hk => absurd hk (by omega)⟩
  · refine ⟨_, _, rfl, fun k hk => ⟨_, rfl, ⟨hgb, (h.lt g rfl).2⟩, ?_, ?_, ?_⟩⟩
    · exact h.cells (g := g) rfl (k * 3) _ (Edt.flat_get l k hk).1
    · have := h.cells (g := g) rfl (k * 3 + 1) _ (Edt.flat_get l k hk).2.1
      have e : (⟨((⟨g, 0, none⟩ : Addr).add (k * 3)).block, ((⟨g, 0, none⟩ : Addr).add (k * 3)).off + 1, none⟩ : Addr) = (⟨g, 0, none⟩ : Addr).add (k * 3 + 1) := by
        unfold Addr.add
        by_cases hk0 : k * 3 = 0 <;> simp [hk0]
      rw [e]; exact this
    · have := h.cells (g := g) rfl (k * 3 + 2) _ (Edt.flat_get l k hk).2.2
      have e : (⟨((⟨g, 0, none⟩ : Addr).add (k * 3)).block, ((⟨g, 0, none⟩ : Addr).add (k * 3)).off + 2, none⟩ : Addr) = (⟨g, 0, none⟩ : Addr).add (k * 3 + 2) := by
        unfold Addr.add
        by_cases hk0 : k * 3 = 0 <;> simp [hk0]
      rw [e]; exact this
def RetEdts (w : World) (l : List Edt) (e : Ending) (w' : World) : Prop := ∃ a c, e = .returned (.slice a l.length c) ∧ Edts w' (fun b => w.heap.size ≤ b ∧ b < w'.heap.size) a l ∧ Below w.heap.size w w'
end Go.Proofs.YtbdfglalohgahaaDoor
