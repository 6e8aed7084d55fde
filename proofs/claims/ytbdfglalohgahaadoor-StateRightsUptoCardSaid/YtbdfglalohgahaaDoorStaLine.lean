/-
  A builder of the call's own; a line of words laid into it (the program's Show of a state, layer 25).
-/
import Derived.Test.YtbdfglalohgahaaDoorPlain64
import Derived.Test.YtbdfglalohgahaaDoorJStaSame
import Derived.Shelf.Strings.BuilderK
namespace Go.Proofs.YtbdfglalohgahaaDoor
open Go.RowKit
set_option linter.unusedVariables false
set_option linter.unusedSimpArgs false

/-- A builder in block b of the call's own that holds these bytes. -/
def Bld (b : Nat) (l : List UInt8) (w : World) : Prop := Lib.IsBuilderF 51 5 b b (Lib.byteCells l) w
theorem Bld.lt {b : Nat} {l : List UInt8} {w : World} (h : Bld b l w) : b < w.heap.size := by
  have : ∃ o, w.heap[b]? = some o := by rcases h with ⟨_, v, hb, _⟩ | ⟨_, v, hb, _⟩ <;> exact ⟨_, hb⟩
  obtain ⟨o, ho⟩ := this
  exact (Array.getElem?_eq_some_iff.1 ho).1
theorem Bld.on {b : Nat} {l : List UInt8} {w w' : World} (h : Bld b l w) (hb : Below w.heap.size w w') : Bld b l w' := by
  have hlt := h.lt
  have hg : w.grownBy w' none := ⟨hb.os, hb.tape, hb.output, hb.size, fun k hk _ => hb.block k hk⟩
  have hn : ∀ v : Value, v.ownBlock = none ∨ v.ownBlock ≠ none := fun v => by cases v.ownBlock <;> simp
  rcases h with ⟨a, v, hv, ho, hne⟩ | ⟨a, v, hv, ho, hne⟩
  · exact .inl ⟨a, v, (hb.block b hlt).trans hv, ho.kept hg (hn v), hne⟩
  · exact .inr ⟨a, v, (hb.block b hlt).trans hv, ho.kept hg (hn v), hne⟩
theorem Bld.new (w : World) : Bld w.heap.size [] (w.alloc (.cells #[.pointer none, .slice none 0 0] 51)) :=
  .inl ⟨Nat.le_refl _, .slice none 0 0, (by show (w.heap.push _)[w.heap.size]? = _; simp), World.ownsRowF_nil _ _ _ _, by simp [Value.ownBlock]⟩
theorem others_below {e : TypeId} {b : Nat} {w w' : World} (h : Below w.heap.size w w') : Lib.OthersKept e (some b) w w' := fun k o hk _ _ => (h.block k (Array.getElem?_eq_some_iff.1 hk).1).trans hk
/-- A line: words, a blank between, a byte 10 behind. -/
def lineL (xs : List ByteArray) : List UInt8 := Lib.join (xs.map (·.data.toList)) [32] ++ [10]
def RetLine (b : Nat) (l : List UInt8) (w : World) (e : Ending) (w' : World) : Prop := e = .returned (.tuple #[]) ∧ Bld b l w' ∧ Below b w w' ∧ Lib.OthersKept 5 (some b) w w'

set_option maxRecDepth 100000 in
set_option maxHeartbeats 1600000 in
theorem line_any (xs : List ByteArray) (bk b : Nat) (bs : List UInt8) (w : World) (hc : ∀ (j : Nat) x, xs[j]? = some x → w.cell? ⟨bk, 0 + j, none⟩ = some (.string x)) (hbk : bk < w.heap.size) (hn : xs.length ≤ 10) (hB : Bld b bs w) (hs : bs.length + (lineL xs).length ≤ 140737488355328) :
    Calls Tryd.prog 34 #[.slice (some ⟨bk, 0, none⟩) xs.length xs.length, .pointer (some ⟨b, 0, none⟩)] w (RetLine b (bs ++ lineL xs) w) := by
  have hjl : (Lib.join (xs.map (·.data.toList)) [32]).length ≤ 140737488355327 := by unfold lineL at hs; rw [List.length_append] at hs; simp at hs; omega
  have cj := Tryd.strings_Join bk 0 xs.length xs ⟨#[32]⟩ w hc hbk (by omega) (Nat.le_refl _) (by show (Lib.join (xs.map (·.data.toList)) [32]).length ≤ _; omega)
  have cj : Calls Tryd.prog 36 #[.slice (some ⟨bk, 0, none⟩) xs.length xs.length, .string ⟨#[32]⟩] w fun e w' => e = .returned (.string ⟨(Lib.join (xs.map (·.data.toList)) [32]).toArray⟩) ∧ Below w.heap.size w w' := cj
  obtain ⟨J, hJ⟩ : ∃ J : ByteArray, ⟨(Lib.join (xs.map (·.data.toList)) [32]).toArray⟩ = J := ⟨_, rfl⟩
  have hJd : J.data.toList = Lib.join (xs.map (·.data.toList)) [32] := by rw [← hJ]
  have hJs : J.size ≤ 140737488355327 := by rw [← list_size, hJd]; exact hjl
  have hJL : (J ++ ⟨#[10]⟩ : ByteArray).data.toList = lineL xs := by rw [app_list, hJd]; rfl
  rw [hJ] at cj
  have cw := fun W (hW : Below w.heap.size w W) => Any.Builder_WriteString_k { Tryd.lays156 with } Tryd.Builder_Extra_156 b b (Lib.byteCells bs) (J ++ ⟨#[10]⟩) W (hB.on hW) (by rw [← list_size, hJL]; unfold Lib.byteCells; rw [List.length_map]; exact hs) (Nat.le_trans (Nat.le_of_lt hB.lt) hW.size)
  have cw : ∀ W, Below w.heap.size w W → Calls Tryd.prog 35 #[.pointer (some ⟨b, 0, none⟩), .string (J ++ ⟨#[10]⟩)] W fun e w' => e = .returned (.tuple #[.int .i64 (J ++ ⟨#[10]⟩ : ByteArray).size, .nilIface]) ∧ (Lib.BuilderAtF 51 5 b b (.pointer (some ⟨b, 0, none⟩)) (Lib.byteCells bs ++ Lib.strCells (J ++ ⟨#[10]⟩)) w' ∧ Below b W w' ∧ Lib.OthersKept 5 (some b) W w') := cw
  have hcat : Lib.byteCells bs ++ Lib.strCells (J ++ ⟨#[10]⟩) = Lib.byteCells (bs ++ lineL xs) := by
    unfold Lib.byteCells Lib.strCells
    rw [hJL, List.map_append]
  have hblt := hB.lt
  obtain ⟨n, hn2⟩ : ∃ n, xs.length = n := ⟨_, rfl⟩
  rw [hn2] at cj ⊢
  have CJ := Lib.hid cj; have CW := Lib.hid cw; have HCAT := Lib.hid hcat; have HBL := Lib.hid hblt
  clear cj cw hcat hblt hB hs hjl hJ hJd hJL hc hbk hn hn2
  go_enter Tryd.func34, Tryd.ntmps34
  go_wp2_with (first
    | (go_at_call 36; (with_reducible refine CJ.out.mono ?_); rintro e w1 ⟨rfl, hb1⟩; have HB1 := Lib.hid hb1; clear hb1)
    | (go_at_call 35; (with_reducible refine (CW.out _ HB1.out).mono ?_); rintro e w2 ⟨rfl, hbl, hb2, hok⟩; have HB2 := Lib.hid hb2; have HOK := Lib.hid hok; have HBD := Lib.hid hbl; clear hb2 hok hbl))
  go_end0
  have hbd := HBD.out
  rw [HCAT.out] at hbd
  exact ⟨rfl, .inr hbd, (HB1.out.mono (Nat.le_of_lt HBL.out)).trans HB2.out, (others_below HB1.out).trans HOK.out⟩
theorem line2_any (x y : ByteArray) (b : Nat) (bs : List UInt8) (W : World) (t : TypeId) (hB : Bld b bs W) (hs : bs.length + (lineL [x, y]).length ≤ 140737488355328) :
    Calls Tryd.prog 34 #[.slice (some ⟨W.heap.size, 0, none⟩) 2 2, .pointer (some ⟨b, 0, none⟩)] (W.alloc (.cells #[.string x, .string y] t)) (RetLine b (bs ++ lineL [x, y]) (W.alloc (.cells #[.string x, .string y] t))) :=
  line_any [x, y] W.heap.size b bs _ (fun j u hj => by
    match j, hj with
    | 0, hj => simp at hj; subst hj; simp [World.cell?_alloc_new]
    | 1, hj => simp at hj; subst hj; simp [World.cell?_alloc_new]) (by simp) (by simp) (hB.on (below1 _ _)) hs
theorem line3_any (x y z : ByteArray) (b : Nat) (bs : List UInt8) (W : World) (t : TypeId) (hB : Bld b bs W) (hs : bs.length + (lineL [x, y, z]).length ≤ 140737488355328) :
    Calls Tryd.prog 34 #[.slice (some ⟨W.heap.size, 0, none⟩) 3 3, .pointer (some ⟨b, 0, none⟩)] (W.alloc (.cells #[.string x, .string y, .string z] t)) (RetLine b (bs ++ lineL [x, y, z]) (W.alloc (.cells #[.string x, .string y, .string z] t))) :=
  line_any [x, y, z] W.heap.size b bs _ (fun j u hj => by
    match j, hj with
    | 0, hj => simp at hj; subst hj; simp [World.cell?_alloc_new]
    | 1, hj => simp at hj; subst hj; simp [World.cell?_alloc_new]
    | 2, hj => simp at hj; subst hj; simp [World.cell?_alloc_new]) (by simp) (by simp) (hB.on (below1 _ _)) hs
end Go.Proofs.YtbdfglalohgahaaDoor
