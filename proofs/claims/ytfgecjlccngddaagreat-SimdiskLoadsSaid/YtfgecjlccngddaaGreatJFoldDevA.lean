/-
  Joined: FoldDev2, FoldDev3, FoldDev4.
-/
import Derived.Test.YtfgecjlccngddaaGreatJFoldDev
import Derived.Shelf.SlMaps.Clone
import Derived.StillTailTactics
import Derived.Deep.RegionLaw
import Derived.Deep.AppendLies
import Derived.Carry
namespace Go.Proofs.YtfgecjlccngddaaGreat
set_option linter.unusedSimpArgs false
set_option linter.unusedVariables false
open Go.RowKit
set_option linter.unusedVariables false

def Chg.flat (cs : List Chg) : List Value := cs.flatMap fun c => [.int .i64 c.kind, .string c.name, .string c.dest, .int .i64 c.id]
theorem Chg.flat_len (cs : List Chg) : (Chg.flat cs).length = cs.length * 4 := by
  induction cs with
  | nil => rfl
  | cons c r ih =>
    show (Chg.flat r).length + 4 = (r.length + 1) * 4
    rw [ih]
    omega
theorem Chg.flat_app (a b : List Chg) : Chg.flat (a ++ b) = Chg.flat a ++ Chg.flat b := by simp [Chg.flat]
theorem Chg.flat_get (cs : List Chg) : ∀ (k : Nat) (h : k < cs.length), (Chg.flat cs)[k * 4]? = some (.int .i64 cs[k].kind) ∧ (Chg.flat cs)[k * 4 + 1]? = some (.string cs[k].name) ∧ (Chg.flat cs)[k * 4 + 2]? = some (.string cs[k].dest) ∧ (Chg.flat cs)[k * 4 + 3]? = some (.int .i64 cs[k].id) := by
  induction cs with
  | nil => intro k h; exact absurd h (by simp)
  | cons c r ih =>
    intro k h
    have e : Chg.flat (c :: r) = .int .i64 c.kind :: .string c.name :: .string c.dest :: .int .i64 c.id :: Chg.flat r := rfl
    cases k with
    | zero => rw [e]; exact ⟨rfl, rfl, rfl, rfl⟩
    | succ k =>
      obtain ⟨h0, h1, h2, h3⟩ := ih k (by simpa using h)
      rw [e]
      refine ⟨?_, ?_, ?_, ?_⟩
      · rw [show (k + 1) * 4 = k * 4 + 1 + 1 + 1 + 1 by omega]; exact h0
      · rw [show (k + 1) * 4 + 1 = k * 4 + 1 + 1 + 1 + 1 + 1 by omega]; exact h1
      · rw [show (k + 1) * 4 + 2 = k * 4 + 2 + 1 + 1 + 1 + 1 by omega]; exact h2
      · rw [show (k + 1) * 4 + 3 = k * 4 + 3 + 1 + 1 + 1 + 1 by omega]; exact h3

/-- A folder in memory: its block, the map of what is seen, the map of what lasts, the row of what waits. -/
structure Fold (w : World) (a bn bk : Nat) (v : Value) (cs : List Chg) (l : List Ent) : Prop where
  blk : w.heap[a]? = some (.cells #[.map (some bn), .map (some bk), v] 119 (0, 0))
  now : MapE w bn (allE l cs)
  kept : MapE w bk l
  row : w.ownsRow 0 122 4 v cs.length (Chg.flat cs)
  ne : bn ≠ bk
  oke : okE l
  may : mays l cs
  nil : cs = [] → v = .slice none 0 0
/-- Its blocks. -/
def foS (a bn bk : Nat) (v : Value) : List Nat := [a, bn, bk] ++ v.ownBlock.toList
theorem foS_mem {a bn bk : Nat} {v : Value} (x : Nat) : x ∈ foS a bn bk v ↔ x = a ∨ x = bn ∨ x = bk ∨ v.ownBlock = some x := by
  unfold foS
  cases h : v.ownBlock <;> simp [eq_comm]
theorem own_keep {w w' : World} {base : Nat} {e : TypeId} {size : Nat} {v : Value} {n : Nat} {xs : List Value} (h : w.ownsRow base e size v n xs) (hk : ∀ g, v.ownBlock = some g → w'.heap[g]? = w.heap[g]?) : w'.ownsRow base e size v n xs := by
  refine ⟨h.1, ?_⟩
  rcases h.2 with h | ⟨g, cap, cur, rfl, hb, hg, r⟩
  · exact .inl h
  · exact .inr ⟨g, cap, cur, rfl, hb, (hk g rfl).trans hg, r⟩
theorem own_cells {w : World} {base : Nat} {e : TypeId} {size : Nat} {v : Value} {n : Nat} {xs : List Value} (h : w.ownsRow base e size v n xs) {g : Nat} (hg : v.ownBlock = some g) : ∃ cur, w.heap[g]? = some (.cells cur e (0, 0)) := by
  rcases h.2 with ⟨rfl, _⟩ | ⟨g', cap, cur, rfl, hb, hgg, r⟩
  · cases hg
  · cases hg
    exact ⟨cur, hgg⟩
theorem Fold.ab {w : World} {a bn bk : Nat} {v : Value} {cs : List Chg} {l : List Ent} (h : Fold w a bn bk v cs l) : a ≠ bn ∧ a ≠ bk ∧ v.ownBlock ≠ some a ∧ v.ownBlock ≠ some bn ∧ v.ownBlock ≠ some bk := by
  obtain ⟨e1, c1, h1⟩ := h.now.map
  obtain ⟨e2, c2, h2⟩ := h.kept.map
  have hb := h.blk
  refine ⟨fun g => ?_, fun g => ?_, fun g => ?_, fun g => ?_, fun g => ?_⟩
  · rw [g, h1] at hb; cases hb
  · rw [g, h2] at hb; cases hb
  · obtain ⟨cur, hc⟩ := own_cells h.row g
    rw [hb] at hc
    exact absurd (Obj.cells.inj (Option.some.inj hc)).2.1 (by decide)
  · obtain ⟨cur, hc⟩ := own_cells h.row g
    rw [h1] at hc; cases hc
  · obtain ⟨cur, hc⟩ := own_cells h.row g
    rw [h2] at hc; cases hc
theorem Fold.lt {w : World} {a bn bk : Nat} {v : Value} {cs : List Chg} {l : List Ent} (h : Fold w a bn bk v cs l) : ∀ b ∈ foS a bn bk v, b < w.heap.size := fun b hb => by
  rcases (foS_mem b).1 hb with rfl | rfl | rfl | g
  · exact lt_of_block h.blk
  · exact h.now.lt
  · exact h.kept.lt
  · exact (h.row.lt b g).2
theorem Fold.keep {w w' : World} {a bn bk : Nat} {v : Value} {cs : List Chg} {l : List Ent} (h : Fold w a bn bk v cs l) (hk : ∀ b ∈ foS a bn bk v, w'.heap[b]? = w.heap[b]?) : Fold w' a bn bk v cs l :=
  ⟨(hk a ((foS_mem a).2 (.inl rfl))).trans h.blk, h.now.keep (hk bn ((foS_mem bn).2 (.inr (.inl rfl)))), h.kept.keep (hk bk ((foS_mem bk).2 (.inr (.inr (.inl rfl))))), own_keep h.row (fun g hg => hk g ((foS_mem g).2 (.inr (.inr (.inr hg))))), h.ne, h.oke, h.may, h.nil⟩
theorem Fold.apart {w w' : World} {S : List Nat} {a bn bk : Nat} {v : Value} {cs : List Chg} {l : List Ent} (h : Fold w a bn bk v cs l) (ha : Apart S w w') (hs : ∀ b ∈ foS a bn bk v, b ∉ S) : Fold w' a bn bk v cs l :=
  h.keep fun b hb => ha.block b (h.lt b hb) (hs b hb)
theorem Fold.below {w w' : World} {a bn bk : Nat} {v : Value} {cs : List Chg} {l : List Ent} (h : Fold w a bn bk v cs l) (hb : Below w.heap.size w w') : Fold w' a bn bk v cs l :=
  h.keep fun b hs => hb.block b (h.lt b hs)
theorem blk3 {w : World} {a : Nat} {x y z : Value} {t : TypeId} (h : w.heap[a]? = some (.cells #[x, y, z] t (0, 0))) :
    w.cell? ⟨a, 0, none⟩ = some x ∧ w.cell? ⟨a, 1, none⟩ = some y ∧ w.cell? ⟨a, 2, none⟩ = some z ∧ w.frozen? ⟨a, 0, none⟩ = false ∧ w.frozen? ⟨a, 1, none⟩ = false ∧ w.frozen? ⟨a, 2, none⟩ = false := by
  refine ⟨?_, ?_, ?_, ?_, ?_, ?_⟩ <;> simp [World.cell?, World.frozen?, h]
theorem blk4 {w : World} {a : Nat} {x y z u : Value} {t : TypeId} (h : w.heap[a]? = some (.cells #[x, y, z, u] t (0, 0))) :
    w.cell? ⟨a, 0, none⟩ = some x ∧ w.cell? ⟨a, 1, none⟩ = some y ∧ w.cell? ⟨a, 2, none⟩ = some z ∧ w.cell? ⟨a, 3, none⟩ = some u ∧ w.frozen? ⟨a, 0, none⟩ = false ∧ w.frozen? ⟨a, 1, none⟩ = false ∧ w.frozen? ⟨a, 2, none⟩ = false ∧ w.frozen? ⟨a, 3, none⟩ = false := by
  refine ⟨?_, ?_, ?_, ?_, ?_, ?_, ?_, ?_⟩ <;> simp [World.cell?, World.frozen?, h]
theorem run_neq_map_nil {P : Program} (w : World) (t k e : TypeId) (p : Option Nat) (h : P.underlying t = some (.map k e)) :
    (binOp .neq t (.map p) (.map none)).run P w = .ok (.bool p.isSome) w := by
  simp only [binOp]
  simp [show Op.equal t (.map p) (.map none) = Op.equalIn (9999 + 1) t (.map p) (.map none) from rfl, run_equalIn_map_nil_sl w 9999 t k e p h, Result.andThen]

set_option maxRecDepth 100000 in
set_option maxHeartbeats 400000 in
theorem fomade_yes {w : World} {a bn bk : Nat} {v : Value} {cs : List Chg} {l : List Ent} (h : Fold w a bn bk v cs l) :
    Calls Tryz.prog 85 #[.pointer (some ⟨a, 0, none⟩)] w fun e w' => e = .returned (.bool true) ∧ w = w' := by
  obtain ⟨c0, c1, c2, f0, f1, f2⟩ := blk3 h.blk
  clear h
  have hq := fun w => run_neq_map_nil (P := Tryz.prog) w 115 _ _ (some bn) Tryz.underlying115
  go_enter Tryz.func85, Tryz.ntmps85
  go_wp2
  go_ret
  exact ⟨rfl, rfl⟩
set_option maxRecDepth 100000 in
set_option maxHeartbeats 400000 in
theorem foown_yes {w : World} {a bn bk : Nat} {v : Value} {cs : List Chg} {l : List Ent} (h : Fold w a bn bk v cs l) :
    Calls Tryz.prog 97 #[.pointer (some ⟨a, 0, none⟩)] w fun e w' => e = .returned (.pointer (some ⟨a, 0, none⟩)) ∧ w = w' := by
  go_enter Tryz.func97, Tryz.ntmps97
  go_wp2_with (go_at_call 85; refine (fomade_yes h).mono ?_; rintro e w' ⟨rfl, rfl⟩)
  go_ret
  exact ⟨rfl, rfl⟩
set_option maxRecDepth 100000 in
set_option maxHeartbeats 400000 in
theorem fofind_f {w : World} {a bn bk : Nat} {v : Value} {cs : List Chg} {l : List Ent} (h : Fold w a bn bk v cs l) {s : ByteArray} (hs : s.size ≤ maxLen) :
    Calls Tryz.prog 91 #[.pointer (some ⟨a, 0, none⟩), .string s] w fun e w' => e = .returned (.tuple #[.int .i64 ((findE (allE l cs) s).getD 0), .bool (findE (allE l cs) s).isSome]) ∧ w = w' := by
  obtain ⟨c0, c1, c2, f0, f1, f2⟩ := blk3 h.blk
  have hlook := h.now.look_ok hs
  have H := Lib.hid h
  clear h
  generalize (findE (allE l cs) s).getD 0 = m at *
  generalize (findE (allE l cs) s).isSome = q at *
  go_enter Tryz.func91, Tryz.ntmps91
  go_wp2_with (go_at_call 97; refine (foown_yes H.out).mono ?_; rintro e w' ⟨rfl, rfl⟩)
  go_ret2
  exact ⟨rfl, rfl⟩
set_option maxRecDepth 100000 in
set_option maxHeartbeats 400000 in
theorem fohas_f {w : World} {a bn bk : Nat} {v : Value} {cs : List Chg} {l : List Ent} (h : Fold w a bn bk v cs l) {s : ByteArray} (hs : s.size ≤ maxLen) :
    Calls Tryz.prog 131 #[.pointer (some ⟨a, 0, none⟩), .string s] w fun e w' => e = .returned (.bool (findE (allE l cs) s).isSome) ∧ w = w' := by
  have c := fofind_f h hs
  clear h
  generalize (findE (allE l cs) s).getD 0 = m at *
  generalize (findE (allE l cs) s).isSome = q at *
  have C := Lib.hid c
  clear c
  go_enter Tryz.func131, Tryz.ntmps131
  go_wp2_with (go_at_call 91; refine C.out.mono ?_; rintro e w' ⟨rfl, rfl⟩)
  go_ret
  exact ⟨rfl, rfl⟩
set_option maxRecDepth 100000 in
set_option maxHeartbeats 400000 in
theorem fowait_f {w : World} {a bn bk : Nat} {v : Value} {cs : List Chg} {l : List Ent} (h : Fold w a bn bk v cs l) :
    Calls Tryz.prog 124 #[.pointer (some ⟨a, 0, none⟩)] w fun e w' => e = .returned (.int .i64 cs.length) ∧ w = w' := by
  obtain ⟨c0, c1, c2, f0, f1, f2⟩ := blk3 h.blk
  obtain ⟨ad, cp, rfl⟩ := own_slice (sz := 3) h.row
  have H := Lib.hid h
  clear h
  generalize cs.length = n at *
  go_enter Tryz.func124, Tryz.ntmps124
  go_wp2_with (go_at_call 97; refine (foown_yes H.out).mono ?_; rintro e w' ⟨rfl, rfl⟩)
  go_ret
  exact ⟨rfl, rfl⟩
end Go.Proofs.YtfgecjlccngddaaGreat
namespace Go.Proofs.YtfgecjlccngddaaGreat
set_option linter.unusedSimpArgs false
set_option linter.unusedVariables false
open Go.RowKit
set_option linter.unusedVariables false

theorem chg_info : (Tryz.prog.info? 122).map (fun i => (i.zero, i.size, i.bytes)) = some (some (.agg #[.int .i64 0, .string ByteArray.empty, .string ByteArray.empty, .int .i64 0]), 4, 48) := by kernel_rfl
theorem one_chg (k n : Int) (s d : ByteArray) : ∀ u ∈ ([.int .i64 k, .string s, .string d, .int .i64 n] : List Value), u.oneCell' = true := by
  intro u hu
  simp at hu
  rcases hu with rfl | rfl | rfl | rfl <;> rfl
theorem news_chg (w : World) (k n : Int) (s d : ByteArray) (t : TypeId) : ∀ j u, ([.int .i64 k, .string s, .string d, .int .i64 n] : List Value)[j]? = some u → (w.alloc (.cells #[.int .i64 k, .string s, .string d, .int .i64 n] t)).cell? ((⟨w.heap.size, 0, none⟩ : Addr).add j) = some u := fun j u hj => by
  refine (World.news_of_block (w := w.alloc (.cells #[.int .i64 k, .string s, .string d, .int .i64 n] t)) (B := w.heap.size) (MapKept.heap_alloc w _).1) j u ?_
  exact hj
/-- What stands when a change was made: the block, the boxed change. -/
theorem fodo_mid {w w3 : World} {a bn bk : Nat} {v : Value} {cs : List Chg} {l : List Ent} {c : Chg} (h : Fold w a bn bk v cs l) (hc : c.may (allE l cs)) (hm : MapE w3 bn (chgE (allE l cs) c))
    (ha : Apart [bn] (w.alloc (.cells c.cells 122)) w3) :
    w3.heap[a]? = some (.cells #[.map (some bn), .map (some bk), v] 119 (0, 0)) ∧ w3.heap[w.heap.size]? = some (.cells c.cells 122 (0, 0)) ∧ w3.ownsRow 0 122 4 v cs.length (Chg.flat cs) ∧ MapE w3 bk l ∧ Apart [bn] w w3 := by
  obtain ⟨n1, n2, n3, n4, n5⟩ := h.ab
  have hal := MapKept.heap_alloc w (.cells c.cells 122)
  have hla := h.lt a ((foS_mem a).2 (.inl rfl))
  have hlk := h.kept.lt
  have hln := h.now.lt
  have e : ∀ k, k < w.heap.size → k ≠ bn → w3.heap[k]? = w.heap[k]? := fun k hk hn => (ha.block k (Nat.lt_of_lt_of_le hk (by simp)) (fun g => hn (List.mem_singleton.1 g))).trans (hal.2 k hk)
  refine ⟨(e a hla n1).trans h.blk, (ha.block _ (by simp) (fun g => by have := List.mem_singleton.1 g; omega)).trans hal.1, own_keep h.row (fun g hg => e g (h.row.lt g hg).2 (fun q => n4 (by rw [hg, q]))), h.kept.keep (e bk hlk (fun q => h.ne q.symm)), ((Apart.refl [bn] w).alloc _).trans ha (fun x hx => .inl hx)⟩
theorem fodo_end {w w3 w5 : World} {a bn bk : Nat} {v : Value} {cs : List Chg} {l : List Ent} {c : Chg} {g cap : Nat} {W : World} (h : Fold w a bn bk v cs l) (hc : c.may (allE l cs)) (hm : MapE w3 bn (chgE (allE l cs) c)) (hk : MapE w3 bk l) (ha : Apart [bn] w w3)
    (hb : w3.heap[a]? = some (.cells #[.map (some bn), .map (some bk), v] 119 (0, 0)))
    (hW : Below w3.heap.size w3 W) (hg : W.grownBy w5 v.ownBlock) (hown : w5.ownsRow 0 122 4 (.slice (some ⟨g, 0, none⟩) (cs.length + 1) cap) (cs.length + 1) (Chg.flat cs ++ [.int .i64 c.kind, .string c.name, .string c.dest, .int .i64 c.id])) (hat : v.ownBlock = some g ∨ g = W.heap.size) :
    ∃ v', Fold (w5.setCell ⟨a, 2, none⟩ (.slice (some ⟨g, 0, none⟩) (cs.length + 1) cap)) a bn bk v' (cs ++ [c]) l ∧ Apart (foS a bn bk v) w (w5.setCell ⟨a, 2, none⟩ (.slice (some ⟨g, 0, none⟩) (cs.length + 1) cap)) ∧ ∀ q, v'.ownBlock = some q → v.ownBlock = some q ∨ w.heap.size ≤ q := by
  obtain ⟨n1, n2, n3, n4, n5⟩ := h.ab
  have hla : a < w3.heap.size := lt_of_block hb
  have hln := hm.lt
  have hlk := hk.lt
  have e : ∀ k, k < w3.heap.size → v.ownBlock ≠ some k → w5.heap[k]? = w3.heap[k]? := fun k hk hn => (hg.block k (Nat.lt_of_lt_of_le hk hW.size) (fun q => hn q.symm)).trans (hW.block k hk)
  have hb5 : w5.heap[a]? = some (.cells #[.map (some bn), .map (some bk), v] 119 (0, 0)) := (e a hla n3).trans hb
  have hga : g ≠ a := fun q => by
    obtain ⟨cur, hc⟩ := own_cells hown (g := g) rfl
    rw [q, hb5] at hc
    exact absurd (Obj.cells.inj (Option.some.inj hc)).2.1 (by decide)
  have hs : ∀ k, k ≠ a → (w5.setCell ⟨a, 2, none⟩ (.slice (some ⟨g, 0, none⟩) (cs.length + 1) cap)).heap[k]? = w5.heap[k]? := fun k hk => Below.heap_setCell _ _ _ k (fun q => hk q)
  refine ⟨.slice (some ⟨g, 0, none⟩) (cs.length + 1) cap, ⟨?_, ?_, ?_, ?_, h.ne, h.oke, mays_snoc cs h.may hc, fun q => absurd q (by simp)⟩, ?_, ?_⟩
  · simp [World.setCell, Array.getElem?_modify, hb5]
  · have : allE l (cs ++ [c]) = chgE (allE l cs) c := by unfold allE; rw [List.foldl_append]; rfl
    rw [this]
    exact hm.keep ((hs bn (fun q => n1 q.symm)).trans (e bn hln n4))
  · exact hk.keep ((hs bk (fun q => n2 q.symm)).trans (e bk hlk n5))
  · rw [List.length_append, Chg.flat_app]
    exact own_keep hown (fun q hq => hs q (by cases hq; exact hga))
  · have a1 : Apart (foS a bn bk v) w w3 := ha.more (fun x hx => (foS_mem x).2 (.inr (.inl (List.mem_singleton.1 hx))))
    have a2 : Apart (foS a bn bk v) w3 W := .of_below hW
    have a3 : Apart (foS a bn bk v) W w5 := ⟨hg.os, hg.tape, hg.output, hg.size, fun k hk hn => hg.block k hk (fun q => hn ((foS_mem k).2 (.inr (.inr (.inr q.symm)))))⟩
    exact ((a1.trans a2 (fun x hx => .inl hx)).trans a3 (fun x hx => .inl hx)).setCell (.inl ((foS_mem a).2 (.inl rfl))) _
  · intro q hq
    cases hq
    rcases hat with r | r
    · exact .inl r
    · exact .inr (by rw [r]; exact Nat.le_trans ha.size hW.size)

set_option maxRecDepth 100000 in
set_option maxHeartbeats 1600000 in
theorem fodo_any {w : World} {a bn bk : Nat} {v : Value} {cs : List Chg} {l : List Ent} (h : Fold w a bn bk v cs l) (hn : (allE l cs).length ≤ 1000000) (hcs : cs.length ≤ 1000000) (c : Chg) (hc : c.may (allE l cs)) :
    Calls Tryz.prog 132 #[.pointer (some ⟨a, 0, none⟩), c.v] w fun e w' => e = .returned (.tuple #[]) ∧ ∃ v', Fold w' a bn bk v' (cs ++ [c]) l ∧ Apart (foS a bn bk v) w w' ∧ ∀ g, v'.ownBlock = some g → v.ownBlock = some g ∨ w.heap.size ≤ g := by
  obtain ⟨i0, hi⟩ : ∃ i, Tryz.prog.info? 122 = some i := by
    have := chg_info
    cases hq : Tryz.prog.info? 122 with
    | none => rw [hq] at this; cases this
    | some i => exact ⟨i, rfl⟩
  have hinf := chg_info
  rw [hi] at hinf
  simp only [Option.map_some, Option.some.injEq, Prod.mk.injEq] at hinf
  obtain ⟨hz0, hz1, hz2⟩ := hinf
  have hokn := okE_all cs h.oke h.may
  obtain ⟨kd, s, d, n⟩ := c
  obtain ⟨c0, c1, c2, f0, f1, f2⟩ := blk3 h.blk
  have CM := Lib.hid (comake_any (w := (w.alloc (.cells #[.int .i64 kd, .string s, .string d, .int .i64 n] 122)).drew) (h.now.box (.cells #[.int .i64 kd, .string s, .string d, .int .i64 n] 122)) hokn hn ⟨kd, s, d, n⟩ hc)
  have H := Lib.hid h; have HC := Lib.hid hc; have HK := Lib.hid hcs
  clear h hc hokn hn hcs
  go_enter Tryz.func132, Tryz.ntmps132
  go_wp2
  have hb0 : (w.alloc (.cells #[.int .i64 kd, .string s, .string d, .int .i64 n] 122)).heap[a]? = some (.cells #[.map (some bn), .map (some bk), v] 119 (0, 0)) := (Below.heap_alloc _ _ a (lt_of_block H.out.blk)).trans H.out.blk
  have hb1 : (w.alloc (.cells #[.int .i64 kd, .string s, .string d, .int .i64 n] 122)).heap[w.heap.size]? = some (.cells #[.int .i64 kd, .string s, .string d, .int .i64 n] 122 (0, 0)) := (MapKept.heap_alloc w _).1
  obtain ⟨d0, d1, d2, g0, g1, g2⟩ := blk3 hb0
  obtain ⟨x0, x1, x2, x3, y0, y1, y2, y3⟩ := blk4 hb1
  clear hb0 hb1 c0 c1 c2 f0 f1 f2
  obtain ⟨w1, hw1⟩ : ∃ w1, w1 = w.alloc (.cells #[.int .i64 kd, .string s, .string d, .int .i64 n] 122) := ⟨_, rfl⟩
  have HW1 := Lib.hid hw1
  rw [← hw1] at d0 d1 d2 g0 g1 g2 x0 x1 x2 x3 y0 y1 y2 y3 CM ⊢
  clear hw1
  go_still_tail 5, (by kernel_rfl)
  change wpList _ _ _ _ _ w1.drew
  go_wp2_with fail
  refine CM.out.mono ?_
  rintro e w3 ⟨rfl, hm3, ha3⟩
  clear d0 d1 d2 g0 g1 g2 x0 x1 x2 x3 y0 y1 y2 y3
  rw [HW1.out] at ha3
  have ha3 : Apart [bn] (w.alloc (.cells #[.int .i64 kd, .string s, .string d, .int .i64 n] 122)) w3 := ⟨ha3.os, ha3.tape, ha3.output, ha3.size, ha3.block⟩
  obtain ⟨b1, b2, b3, b4, b5⟩ := fodo_mid (c := ⟨kd, s, d, n⟩) H.out HC.out hm3 ha3
  obtain ⟨d0, d1, d2, g0, g1, g2⟩ := blk3 b1
  obtain ⟨x0, x1, x2, x3, y0, y1, y2, y3⟩ := blk4 b2
  have b1' : (w3.alloc (.cells #[.int .i64 kd, .string s, .string d, .int .i64 n] 122)).heap[a]? = some (.cells #[.map (some bn), .map (some bk), v] 119 (0, 0)) := (Below.heap_alloc _ _ a (lt_of_block b1)).trans b1
  have b2' : (w3.alloc (.cells #[.int .i64 kd, .string s, .string d, .int .i64 n] 122)).heap[w.heap.size]? = some (.cells #[.int .i64 kd, .string s, .string d, .int .i64 n] 122 (0, 0)) := (Below.heap_alloc _ _ _ (lt_of_block b2)).trans b2
  obtain ⟨e0, e1, e2, k0, k1, k2⟩ := blk3 b1'
  obtain ⟨z0, z1, z2, z3, q0, q1, q2, q3⟩ := blk4 b2'
  have ho2 : ((w3.alloc (.cells #[.int .i64 kd, .string s, .string d, .int .i64 n] 122)).drew).ownsRow 0 122 4 v cs.length (Chg.flat cs) := b3.alloc _
  have hnw := news_chg w3 kd n s d 122
  obtain ⟨n1, n2, n3, n4, n5⟩ := H.out.ab
  have hla : a < (w3.alloc (.cells #[.int .i64 kd, .string s, .string d, .int .i64 n] 122)).drew.heap.size := lt_of_block b1'
  have HM3 := Lib.hid hm3; have B1 := Lib.hid b1; have B3 := Lib.hid b3; have B4 := Lib.hid b4; have B5 := Lib.hid b5; have HO2 := Lib.hid ho2; have NW := Lib.hid hnw; have N3 := Lib.hid n3; have HLA := Lib.hid hla; have E2 := Lib.hid e2; have K2 := Lib.hid k2
  clear hm3 ha3 b1 b2 b3 b4 b5 b1' b2' ho2 hnw n1 n2 n3 n4 n5 hla CM
  go_wp2
  go_region_law (refine step_append_lies _ rfl (.tmp 14) (.tmp 16) 117 rfl 0 122 i0 _ 4 48 Tryz.underlying117 hi hz0 hz1 hz2 rfl (by decide) v cs.length _ (by simp [Act.eval]) HO2.out ⟨w3.heap.size, 0, none⟩ 1 1 [.int .i64 kd, .string s, .string d, .int .i64 n] (by simp [Act.eval]) rfl NW.out (one_chg _ _ _ _) (by omega) (by have := HK.out; unfold maxLen; omega) (by have := HK.out; omega) (Nat.zero_le _) _ rfl ?_; intro g cap w5 hown hgrow hat _; have m2 := (hgrow.cell_far ⟨a, 2, none⟩ HLA.out (fun q => N3.out q.symm)).trans E2.out; have o2 := (hgrow.frozen_far ⟨a, 2, none⟩ HLA.out (fun q => N3.out q.symm)).trans K2.out)
  all_goals
    go_simp
    go_wp2
    go_end0
    exact ⟨rfl, fodo_end H.out HC.out HM3.out B4.out B5.out B1.out (((Below.refl _ w3).alloc (Nat.le_refl _) _).drew) hgrow hown hat⟩

set_option maxRecDepth 100000 in
set_option maxHeartbeats 400000 in
theorem foput_f {w : World} {a bn bk : Nat} {v : Value} {cs : List Chg} {l : List Ent} (h : Fold w a bn bk v cs l) (hn : (allE l cs).length ≤ 1000000) (hcs : cs.length ≤ 1000000) (s : ByteArray) (hs : s.size ≤ maxLen) (n : Int) (h0 : -9223372036854775808 ≤ n) (h1 : n ≤ 9223372036854775807) :
    Calls Tryz.prog 93 #[.pointer (some ⟨a, 0, none⟩), .string s, .int .i64 n] w fun e w' => e = .returned (.bool (!(findE (allE l cs) s).isSome)) ∧
      ((findE (allE l cs) s).isSome = true ∧ w = w' ∨ (findE (allE l cs) s).isSome = false ∧ ∃ v', Fold w' a bn bk v' (cs ++ [⟨0, s, ByteArray.empty, n⟩]) l ∧ Apart (foS a bn bk v) w w' ∧ ∀ g, v'.ownBlock = some g → v.ownBlock = some g ∨ w.heap.size ≤ g) := by
  have CM := Lib.hid (fomade_yes h)
  have CH := Lib.hid (fohas_f h hs)
  have CD := fun (hf : (findE (allE l cs) s).isSome = false) => fodo_any h hn hcs ⟨0, s, ByteArray.empty, n⟩ ⟨⟨hs, by show 0 ≤ maxLen; exact Nat.zero_le _, h0, h1⟩, .inl ⟨rfl, hf⟩⟩
  generalize hq : (findE (allE l cs) s).isSome = q at *
  clear h hn hcs hs hq
  cases q with
  | true =>
    clear CD
    go_enter Tryz.func93, Tryz.ntmps93
    go_wp2_with (first
      | (go_at_call 85; refine CM.out.mono ?_; rintro e w' ⟨rfl, rfl⟩)
      | (go_at_call 131; refine CH.out.mono ?_; rintro e w' ⟨rfl, rfl⟩))
    go_ret
    exact ⟨rfl, .inl ⟨by trivial, rfl⟩⟩
  | false =>
    have CE := Lib.hid (CD rfl)
    clear CD
    go_enter Tryz.func93, Tryz.ntmps93
    go_wp2_with (first
      | (go_at_call 85; refine CM.out.mono ?_; rintro e w' ⟨rfl, rfl⟩)
      | (go_at_call 131; refine CH.out.mono ?_; rintro e w' ⟨rfl, rfl⟩)
      | (go_at_call 132; refine CE.out.mono ?_; rintro e w2 ⟨rfl, hr⟩))
    go_ret
    exact ⟨rfl, .inr ⟨by trivial, hr⟩⟩
set_option maxRecDepth 100000 in
set_option maxHeartbeats 400000 in
theorem fodrop_f {w : World} {a bn bk : Nat} {v : Value} {cs : List Chg} {l : List Ent} (h : Fold w a bn bk v cs l) (hn : (allE l cs).length ≤ 1000000) (hcs : cs.length ≤ 1000000) (s : ByteArray) (hs : s.size ≤ maxLen) :
    Calls Tryz.prog 78 #[.pointer (some ⟨a, 0, none⟩), .string s] w fun e w' => e = .returned (.bool (findE (allE l cs) s).isSome) ∧
      ((findE (allE l cs) s).isSome = false ∧ w = w' ∨ (findE (allE l cs) s).isSome = true ∧ ∃ v', Fold w' a bn bk v' (cs ++ [⟨1, s, ByteArray.empty, 0⟩]) l ∧ Apart (foS a bn bk v) w w' ∧ ∀ g, v'.ownBlock = some g → v.ownBlock = some g ∨ w.heap.size ≤ g) := by
  have CH := Lib.hid (fohas_f h hs)
  have CD := Lib.hid (fodo_any h hn hcs ⟨1, s, ByteArray.empty, 0⟩ ⟨⟨hs, by show 0 ≤ maxLen; exact Nat.zero_le _, by show (-9223372036854775808 : Int) ≤ 0; omega, by show (0 : Int) ≤ 9223372036854775807; omega⟩, .inr (.inl rfl)⟩)
  generalize hq : (findE (allE l cs) s).isSome = q at *
  clear h hn hcs hs hq
  cases q with
  | false =>
    clear CD
    go_enter Tryz.func78, Tryz.ntmps78
    go_wp2_with (go_at_call 131; refine CH.out.mono ?_; rintro e w' ⟨rfl, rfl⟩)
    go_ret
    exact ⟨rfl, .inl ⟨by trivial, rfl⟩⟩
  | true =>
    go_enter Tryz.func78, Tryz.ntmps78
    go_wp2_with (first
      | (go_at_call 131; refine CH.out.mono ?_; rintro e w' ⟨rfl, rfl⟩)
      | (go_at_call 132; refine CD.out.mono ?_; rintro e w2 ⟨rfl, hr⟩))
    go_ret
    exact ⟨rfl, .inr ⟨by trivial, hr⟩⟩
set_option maxRecDepth 100000 in
set_option maxHeartbeats 400000 in
theorem fomove_f {w : World} {a bn bk : Nat} {v : Value} {cs : List Chg} {l : List Ent} (h : Fold w a bn bk v cs l) (hn : (allE l cs).length ≤ 1000000) (hcs : cs.length ≤ 1000000) (s d : ByteArray) (hs : s.size ≤ maxLen) (hd : d.size ≤ maxLen) :
    Calls Tryz.prog 76 #[.pointer (some ⟨a, 0, none⟩), .string s, .string d] w fun e w' => e = .returned (.bool (findE (allE l cs) s).isSome) ∧
      (((findE (allE l cs) s).isSome = false ∨ s = d) ∧ w = w' ∨ (findE (allE l cs) s).isSome = true ∧ s ≠ d ∧ ∃ v', Fold w' a bn bk v' (cs ++ [⟨2, s, d, 0⟩]) l ∧ Apart (foS a bn bk v) w w' ∧ ∀ g, v'.ownBlock = some g → v.ownBlock = some g ∨ w.heap.size ≤ g) := by
  have CH := Lib.hid (fohas_f h hs)
  have CD := fun (hf : (findE (allE l cs) s).isSome = true) (hne : s ≠ d) => fodo_any h hn hcs ⟨2, s, d, 0⟩ ⟨⟨hs, hd, by show (-9223372036854775808 : Int) ≤ 0; omega, by show (0 : Int) ≤ 9223372036854775807; omega⟩, .inr (.inr ⟨rfl, hf, hne⟩)⟩
  generalize hq : (findE (allE l cs) s).isSome = q at *
  clear h hn hcs hs hd hq
  cases q with
  | false =>
    clear CD
    go_enter Tryz.func76, Tryz.ntmps76
    go_wp2_with (go_at_call 131; refine CH.out.mono ?_; rintro e w' ⟨rfl, rfl⟩)
    go_ret
    exact ⟨rfl, .inl ⟨.inl (by trivial), rfl⟩⟩
  | true =>
    by_cases hne : s = d
    · subst hne
      clear CD
      have hb : (s.toList == s.toList) = true := beq_self_eq_true _
      go_enter Tryz.func76, Tryz.ntmps76
      go_wp2_with (go_at_call 131; refine CH.out.mono ?_; rintro e w' ⟨rfl, rfl⟩)
      go_ret
      exact ⟨rfl, .inl ⟨.inr (by trivial), rfl⟩⟩
    · have hb := str_ne hne
      have CE := Lib.hid (CD rfl hne)
      clear CD
      go_enter Tryz.func76, Tryz.ntmps76
      go_wp2_with (first
        | (go_at_call 131; refine CH.out.mono ?_; rintro e w' ⟨rfl, rfl⟩)
        | (go_at_call 132; refine CE.out.mono ?_; rintro e w2 ⟨rfl, hr⟩))
      go_ret
      exact ⟨rfl, .inr ⟨by trivial, hne, hr⟩⟩
end Go.Proofs.YtfgecjlccngddaaGreat
namespace Go.Proofs.YtfgecjlccngddaaGreat
set_option linter.unusedSimpArgs false
set_option linter.unusedVariables false
open Go.RowKit
set_option linter.unusedVariables false

/-- A row of changes, as it is read. -/
def Chgs (w : World) (ad : Addr) (cs : List Chg) : Prop :=
  ∀ (k : Nat) (h : k < cs.length), w.cell? (ad.add (k * 4)) = some (.int .i64 (cs[k]).kind) ∧ w.cell? ⟨(ad.add (k * 4)).block, (ad.add (k * 4)).off + 1, none⟩ = some (.string (cs[k]).name) ∧
    w.cell? ⟨(ad.add (k * 4)).block, (ad.add (k * 4)).off + 2, none⟩ = some (.string (cs[k]).dest) ∧ w.cell? ⟨(ad.add (k * 4)).block, (ad.add (k * 4)).off + 3, none⟩ = some (.int .i64 (cs[k]).id)
theorem add_flat (g m : Nat) : (⟨g, 0, none⟩ : Addr).add m = ⟨g, m, none⟩ := by unfold Addr.add; split <;> simp_all
theorem own_chgs {w : World} {base : Nat} {t : TypeId} {g n cap : Nat} {cs : List Chg} (h : w.ownsRow base t 4 (.slice (some ⟨g, 0, none⟩) n cap) n (Chg.flat cs)) : Chgs w ⟨g, 0, none⟩ cs := fun k hk => by
  obtain ⟨h0, h1, h2, h3⟩ := Chg.flat_get cs k hk
  have hc := h.cells (g := g) rfl
  have e0 := hc _ _ h0
  have e1 := hc _ _ h1
  have e2 := hc _ _ h2
  have e3 := hc _ _ h3
  rw [add_flat] at e0 e1 e2 e3 ⊢
  exact ⟨e0, e1, e2, e3⟩
theorem own_form {w : World} {base : Nat} {t : TypeId} {sz n : Nat} {v : Value} {xs : List Value} (h : w.ownsRow base t sz v n xs) : v = .slice none 0 0 ∧ n = 0 ∨ ∃ g cap, v = .slice (some ⟨g, 0, none⟩) n cap ∧ n ≤ cap ∧ cap ≤ maxLen := by
  rcases h.2 with h | ⟨g, cap, cur, rfl, hb, hg, h1, h2, r⟩
  · exact .inl h
  · exact .inr ⟨g, cap, rfl, h1, h2⟩
/-- What settle leaves. -/
def Settled (w : World) (a bn bk : Nat) (v : Value) (cs : List Chg) (l : List Ent) (n : Nat) (e : Ending) (w' : World) : Prop :=
  e = .returned (.tuple #[]) ∧ w'.heap[a]? = some (.cells #[.map (some bn), .map (some bk), .slice none 0 0] 119 (0, 0)) ∧ MapE w' bn (allE l cs) ∧ MapE w' bk (allE l (cs.take n)) ∧ Apart [a, bk] w w'
theorem set_third {w : World} {a : Nat} {x y z : Value} {t : TypeId} (h : w.heap[a]? = some (.cells #[x, y, z] t (0, 0))) (u : Value) : (w.setCell ⟨a, 2, none⟩ u).heap[a]? = some (.cells #[x, y, u] t (0, 0)) := by
  simp [World.setCell, Array.getElem?_modify, h]
theorem set_first {w : World} {a : Nat} {x y z : Value} {t : TypeId} (h : w.heap[a]? = some (.cells #[x, y, z] t (0, 0))) (u : Value) : (w.setCell ⟨a, 0, none⟩ u).heap[a]? = some (.cells #[u, y, z] t (0, 0)) := by
  simp [World.setCell, Array.getElem?_modify, h]
set_option maxRecDepth 100000 in
set_option maxHeartbeats 400000 in
theorem fosettle_nil {w : World} {a bn bk : Nat} {l : List Ent} (h : Fold w a bn bk (.slice none 0 0) [] l) :
    Calls Tryz.prog 123 #[.pointer (some ⟨a, 0, none⟩), .int .i64 0] w (Settled w a bn bk (.slice none 0 0) [] l 0) := by
  obtain ⟨c0, c1, c2, f0, f1, f2⟩ := blk3 h.blk
  obtain ⟨n1, n2, n3, n4, n5⟩ := h.ab
  have he : ∀ u k, k ≠ a → (w.setCell ⟨a, 2, none⟩ u).heap[k]? = w.heap[k]? := fun u k hk => Below.heap_setCell _ _ _ k (fun q => hk q)
  have H := Lib.hid h; have N := Lib.hid (⟨n1, n2⟩ : a ≠ bn ∧ a ≠ bk); have HE := Lib.hid he
  clear h n1 n2 n3 n4 n5 he
  go_enter Tryz.func123, Tryz.ntmps123
  go_wp2
  go_loopw [13] (fun i wr => i = .int .i64 0 ∧ wr = w) (fun _ _ => 0)
  case atStart => exact ⟨rfl, rfl⟩
  case round =>
    obtain ⟨rfl, rfl⟩ := hrel
    go_wp2
    go_end0
    refine ⟨rfl, set_third H.out.blk _, H.out.now.keep (HE.out _ bn (fun q => N.out.1 q.symm)), H.out.kept.keep (HE.out _ bk (fun q => N.out.2 q.symm)), (Apart.refl _ _).setCell (.inl ?_) _⟩
    exact List.mem_cons_self
/-- What stands when a change was made in what lasts. -/
theorem settle_on {w wr w3 : World} {a bn bk g n cap : Nat} {cs : List Chg} {l : List Ent} {c : Chg} (h : Fold w a bn bk (.slice (some ⟨g, 0, none⟩) n cap) cs l) (hr : Apart [bk] w wr) (ha : Apart [bk] (wr.alloc (.cells c.cells 122)) w3) : Apart [bk] w w3 :=
  (hr.trans ((Apart.refl [bk] wr).alloc _) (fun x hx => .inl hx)).trans ha (fun x hx => .inl hx)
theorem settle_cells {w wr : World} {a bn bk g n cap : Nat} {cs : List Chg} {l : List Ent} (h : Fold w a bn bk (.slice (some ⟨g, 0, none⟩) n cap) cs l) (hr : Apart [bk] w wr) :
    wr.heap[a]? = some (.cells #[.map (some bn), .map (some bk), .slice (some ⟨g, 0, none⟩) n cap] 119 (0, 0)) ∧ wr.heap[g]? = w.heap[g]? ∧ MapE wr bn (allE l cs) := by
  obtain ⟨n1, n2, n3, n4, n5⟩ := h.ab
  have hlg := (h.row.lt g rfl).2
  exact ⟨(hr.block a (lt_of_block h.blk) (fun q => n2 (List.mem_singleton.1 q))).trans h.blk, hr.block g hlg (fun q => n5 (by rw [← List.mem_singleton.1 q]; rfl)), h.now.keep (hr.block bn h.now.lt (fun q => h.ne (List.mem_singleton.1 q)))⟩
set_option maxRecDepth 100000 in
set_option maxHeartbeats 1600000 in
theorem fosettle_row {w : World} {a bn bk g n cap : Nat} {cs : List Chg} {l : List Ent} (h : Fold w a bn bk (.slice (some ⟨g, 0, none⟩) n cap) cs l) (hn : n = cs.length) (hcap : n ≤ cap) (hcm : cap ≤ maxLen) (m : Nat) (hm : m ≤ n) (hM : ∀ k ≤ n, (allE l (cs.take k)).length ≤ 1000000) (hcs : n ≤ 1000000) :
    Calls Tryz.prog 123 #[.pointer (some ⟨a, 0, none⟩), .int .i64 m] w (Settled w a bn bk (.slice (some ⟨g, 0, none⟩) n cap) cs l m) := by
  obtain ⟨c0, c1, c2, f0, f1, f2⟩ := blk3 h.blk
  have hrow : Chgs w ⟨g, 0, none⟩ cs := by have := h.row; rw [← hn] at this; exact own_chgs this
  have hgl : g < w.heap.size := (h.row.lt g rfl).2
  obtain ⟨ad, had⟩ : ∃ ad : Addr, ad = ⟨g, 0, none⟩ := ⟨_, rfl⟩
  have HAD := Lib.hid had
  rw [← had] at hrow
  have H := Lib.hid h; have HROW := Lib.hid hrow; have HM := Lib.hid hM; have HN := Lib.hid hn; have HG := Lib.hid hgl
  have c2' : w.cell? ⟨a, 2, none⟩ = some (.slice (some ad) n cap) := by rw [had]; exact c2
  have b0 : (0 : Int) ≤ (m : Int) := by omega
  have b1 : (m : Int) ≤ (cap : Int) := by omega
  have b2 : (cap : Int) ≤ 9223372036854775807 := by unfold maxLen at hcm; omega
  clear h hrow hM hn c2 hgl had hcm
  go_enter Tryz.func123, Tryz.ntmps123
  go_wp2
  go_loopw [13] (fun i wr => ∃ k : Nat, k ≤ m ∧ i = .int .i64 k ∧ MapE wr bk (allE l (cs.take k)) ∧ Apart [bk] w wr) (fun i _ => m - (intOf i).toNat)
  case atStart => exact ⟨0, Nat.zero_le _, rfl, H.out.kept, Apart.refl _ _⟩
  case round =>
    obtain ⟨k, hk, rfl, hmap, hap⟩ := hrel
    obtain ⟨s1, s2, s3⟩ := settle_cells H.out hap
    by_cases hlt : k < m
    · have hkl : k < cs.length := by rw [← HN.out]; omega
      have hrr : Chgs wr ad cs := fun i hi => by
        obtain ⟨e0, e1, e2, e3⟩ := HROW.out i hi
        have hbk : (ad.add (i * 4)).block = g := by rw [HAD.out]; exact add_block _ _
        have hq : ∀ p : Addr, p.block = g → wr.cell? p = w.cell? p := fun p hp => World.cell?_of_block (by rw [hp]; exact s2)
        exact ⟨(hq (ad.add (i * 4)) hbk).trans e0, (hq ⟨(ad.add (i * 4)).block, (ad.add (i * 4)).off + 1, none⟩ hbk).trans e1, (hq ⟨(ad.add (i * 4)).block, (ad.add (i * 4)).off + 2, none⟩ hbk).trans e2, (hq ⟨(ad.add (i * 4)).block, (ad.add (i * 4)).off + 3, none⟩ hbk).trans e3⟩
      obtain ⟨e0, e1, e2, e3⟩ := hrr k hkl
      have hstep := allE_succ l cs k hkl
      have hmay := mays_get cs H.out.may k hkl
      have hok := okE_all (cs.take k) H.out.oke (mays_take cs H.out.may k)
      obtain ⟨x, hx⟩ : ∃ x, cs[k]'hkl = x := ⟨_, rfl⟩
      rw [hx] at e0 e1 e2 e3 hstep hmay
      obtain ⟨kd, s, d, id⟩ := x
      simp only at e0 e1 e2 e3
      obtain ⟨d0, d1, d2, g0, g1, g2⟩ := blk3 s1
      have b3 : (0 : Int) ≤ (k : Int) := by omega
      have b4 : (k : Int) < (m : Int) := by omega
      have CM := Lib.hid (comake_any (w := (wr.alloc (.cells #[.int .i64 kd, .string s, .string d, .int .i64 id] 122)).drew) (hmap.box (.cells #[.int .i64 kd, .string s, .string d, .int .i64 id] 122)) hok (HM.out k (by omega)) ⟨kd, s, d, id⟩ hmay)
      have S1 := Lib.hid s1; have HAP := Lib.hid hap; have HST := Lib.hid hstep
      clear hrr hx hmay hok hmap s1 s2 s3 hap hstep c0 c1 c2' f0 f1 f2
      go_wp2
      have hb0 : (wr.alloc (.cells #[.int .i64 kd, .string s, .string d, .int .i64 id] 122)).heap[a]? = some (.cells #[.map (some bn), .map (some bk), .slice (some ⟨g, 0, none⟩) n cap] 119 (0, 0)) := (Below.heap_alloc _ _ a (lt_of_block S1.out)).trans S1.out
      have hb1 : (wr.alloc (.cells #[.int .i64 kd, .string s, .string d, .int .i64 id] 122)).heap[wr.heap.size]? = some (.cells #[.int .i64 kd, .string s, .string d, .int .i64 id] 122 (0, 0)) := (MapKept.heap_alloc wr _).1
      clear d0 d1 d2 g0 g1 g2
      obtain ⟨d0, d1, d2, g0, g1, g2⟩ := blk3 hb0
      obtain ⟨x0, x1, x2, x3, y0, y1, y2, y3⟩ := blk4 hb1
      clear hb0 hb1 e0 e1 e2 e3
      obtain ⟨w1, hw1⟩ : ∃ w1, w1 = wr.alloc (.cells #[.int .i64 kd, .string s, .string d, .int .i64 id] 122) := ⟨_, rfl⟩
      have HW1 := Lib.hid hw1
      rw [← hw1] at d0 d1 d2 g0 g1 g2 x0 x1 x2 x3 y0 y1 y2 y3 CM ⊢
      clear hw1
      go_still_tail 5, (by kernel_rfl)
      change wpList _ _ _ _ _ w1.drew
      go_wp2_with fail
      refine CM.out.mono ?_
      rintro e w3 ⟨rfl, hm3, ha3⟩
      clear d0 d1 d2 g0 g1 g2 x0 x1 x2 x3 y0 y1 y2 y3
      rw [HW1.out] at ha3
      have ha4 : Apart [bk] w w3 := settle_on (c := ⟨kd, s, d, id⟩) H.out HAP.out ⟨ha3.os, ha3.tape, ha3.output, ha3.size, ha3.block⟩
      rw [← HST.out] at hm3
      have HM3 := Lib.hid hm3; have HA4 := Lib.hid ha4
      clear hm3 ha3 ha4 CM
      go_wp2
      go_roundw
      case rel => exact ⟨k + 1, by omega, by go_num, HM3.out, HA4.out⟩
      case measure => simp [intOf]; omega
    · obtain rfl : k = m := by omega
      have he : ∀ u i, i ≠ a → (wr.setCell ⟨a, 2, none⟩ u).heap[i]? = wr.heap[i]? := fun u i hi => Below.heap_setCell _ _ _ i (fun q => hi q)
      obtain ⟨n1, n2, n3, n4, n5⟩ := H.out.ab
      obtain ⟨d0, d1, d2, g0, g1, g2⟩ := blk3 s1
      have hap : Apart [a, bk] w wr := hap.more (fun x hx => by rw [List.mem_singleton.1 hx]; simp)
      have S1 := Lib.hid s1; have S3 := Lib.hid s3; have HMAP := Lib.hid hmap; have HAP := Lib.hid hap; have N := Lib.hid (⟨n1, n2⟩ : a ≠ bn ∧ a ≠ bk); have HE := Lib.hid he
      clear s1 s2 s3 hmap hap n1 n2 n3 n4 n5 he c0 c1 c2' f0 f1 f2
      go_wp2
      go_end0
      exact ⟨rfl, set_third S1.out _, S3.out.keep (HE.out _ bn (fun q => N.out.1 q.symm)), HMAP.out.keep (HE.out _ bk (fun q => N.out.2 q.symm)), HAP.out.setCell (p := ⟨a, 2, none⟩) (.inl List.mem_cons_self) _⟩
theorem fosettle_any {w : World} {a bn bk : Nat} {v : Value} {cs : List Chg} {l : List Ent} (h : Fold w a bn bk v cs l) (m : Nat) (hm : m ≤ cs.length) (hM : ∀ k ≤ cs.length, (allE l (cs.take k)).length ≤ 1000000) (hcs : cs.length ≤ 1000000) :
    Calls Tryz.prog 123 #[.pointer (some ⟨a, 0, none⟩), .int .i64 m] w (Settled w a bn bk v cs l m) := by
  rcases own_form h.row with ⟨rfl, h0⟩ | ⟨g, cap, rfl, h1, h2⟩
  · have hnil : cs = [] := List.length_eq_zero_iff.1 h0
    subst hnil
    obtain rfl : m = 0 := by simpa using hm
    exact fosettle_nil h
  · exact fosettle_row h rfl h1 h2 m hm hM hcs

/-- The remainder that is no less than 0. -/
theorem tmod_pick (n : Int) (m : Nat) (hm : 0 < m) : (if n.tmod m < 0 then n.tmod m + m else n.tmod m) = (pickN n m : Nat) := by
  obtain ⟨h1, h2⟩ := tmod_bounds n m hm
  have h3 := Int.emod_nonneg n (show (m : Int) ≠ 0 by omega)
  have h4 := Int.emod_lt_of_pos n (show (0 : Int) < m by omega)
  have h5 : n.tmod m = n % m ∨ n.tmod m = n % m - m := by
    rcases Int.lt_or_le n 0 with g | g
    · by_cases hd : n % m = 0
      · left
        rw [hd]
        exact Int.tmod_eq_zero_of_dvd (Int.dvd_of_emod_eq_zero hd)
      · right
        have := Int.tmod_eq_emod (a := n) (b := m)
        have hnd : ¬ (m : Int) ∣ n := fun q => hd (Int.emod_eq_zero_of_dvd q)
        rw [this, if_neg (by rintro (q | q); omega; exact hnd q)]
        simp
    · left
      exact Int.tmod_eq_emod_of_nonneg g
  have hp : ((pickN n m : Nat) : Int) = n % m := by unfold pickN; omega
  rw [hp]
  split <;> omega
set_option maxRecDepth 100000 in
set_option maxHeartbeats 400000 in
theorem fomod_any (n : Int) (h0 : -9223372036854775808 ≤ n) (h1 : n ≤ 9223372036854775807) (m : Nat) (hm : 0 < m) (hm2 : m ≤ 1000001) (w : World) :
    Calls Tryz.prog 142 #[.int .i64 n, .int .i64 m] w fun e w' => e = .returned (.int .i64 (pickN n m : Nat)) ∧ w = w' := by
  have hp := tmod_pick n m hm
  obtain ⟨b1, b2⟩ := tmod_bounds n m hm
  have hz : ((m : Int) == 0) = false := by simp; omega
  have hz2 : ¬ (m : Int) = 0 := by omega
  obtain ⟨r, hr⟩ : ∃ r, n.tmod m = r := ⟨_, rfl⟩
  rw [hr] at hp b1 b2
  by_cases hlt : r < 0
  · rw [if_pos hlt] at hp
    have y1 : IntKind.i64.wrap (r + m) = r + m := IntWalk.i64_in _ (by omega)
    have HP := Lib.hid hp
    clear hp
    go_enter Tryz.func142, Tryz.ntmps142
    go_wp2
    go_ret
    exact ⟨by rw [← HP.out]; rfl, rfl⟩
  · rw [if_neg hlt] at hp
    have HP := Lib.hid hp
    clear hp
    go_enter Tryz.func142, Tryz.ntmps142
    go_wp2
    go_ret
    exact ⟨by rw [← HP.out]; rfl, rfl⟩

theorem settled_fold {w w' : World} {a bn bk : Nat} {v : Value} {cs : List Chg} {l : List Ent} {e : Ending} (h : Fold w a bn bk v cs l) (hs : Settled w a bn bk v cs l cs.length e w') :
    Fold w' a bn bk (.slice none 0 0) [] (allE l cs) ∧ Apart (foS a bn bk v) w w' := by
  obtain ⟨_, h1, h2, h3, h4⟩ := hs
  rw [List.take_length] at h3
  exact ⟨⟨h1, h2, h3, World.ownsRow_nil _ _ _ _, h.ne, okE_all cs h.oke h.may, trivial, fun _ => rfl⟩, h4.more (fun x hx => by
    rw [foS_mem]
    rcases List.mem_cons.1 hx with rfl | hx
    · exact .inl rfl
    · exact .inr (.inr (.inl (List.mem_singleton.1 hx))))⟩
set_option maxRecDepth 100000 in
set_option maxHeartbeats 400000 in
theorem fosync_f {w : World} {a bn bk : Nat} {v : Value} {cs : List Chg} {l : List Ent} (h : Fold w a bn bk v cs l) (hM : ∀ k ≤ cs.length, (allE l (cs.take k)).length ≤ 1000000) (hcs : cs.length ≤ 1000000) :
    Calls Tryz.prog 66 #[.pointer (some ⟨a, 0, none⟩)] w fun e w' => e = .returned (.tuple #[]) ∧ Fold w' a bn bk (.slice none 0 0) [] (allE l cs) ∧ Apart (foS a bn bk v) w w' := by
  have CO := Lib.hid (foown_yes h)
  have CW := Lib.hid (fowait_f h)
  have CS := Lib.hid (fosettle_any h cs.length (Nat.le_refl _) hM hcs)
  have H := Lib.hid h
  clear h hM
  obtain ⟨n, hn⟩ : ∃ n, cs.length = n := ⟨_, rfl⟩
  rw [hn] at CW CS hcs
  have HN := Lib.hid hn
  clear hn
  go_enter Tryz.func66, Tryz.ntmps66
  go_wp2_with (first
    | (go_at_call 97; refine CO.out.mono ?_; rintro e w' ⟨rfl, rfl⟩)
    | (go_at_call 124; refine CW.out.mono ?_; rintro e w' ⟨rfl, rfl⟩)
    | (go_at_call 123; refine CS.out.mono ?_; intro e w2 hs; obtain ⟨rfl, hr⟩ : e = .returned (.tuple #[]) ∧ Settled w a bn bk v cs l n e w2 := ⟨hs.1, hs⟩; have HR := Lib.hid hr; clear hs hr))
  go_end0
  have hs := HR.out
  rw [← HN.out] at hs
  exact ⟨rfl, settled_fold H.out hs⟩
/-- Behind a crash: what is seen is what lasts. -/
theorem crash_fold {w w2 w3 : World} {a bn bk n : Nat} {v : Value} {cs : List Chg} {l : List Ent} {e : Ending} (h : Fold w a bn bk v cs l) (hn : n ≤ cs.length) (hs : Settled w a bn bk v cs l n e w2) (hm : MapE w3 w2.heap.size (allE l (cs.take n))) (hb : Below w2.heap.size w2 w3) :
    Fold (w3.setCell ⟨a, 0, none⟩ (.map (some w2.heap.size))) a w2.heap.size bk (.slice none 0 0) [] (allE l (cs.take n)) ∧ Apart (foS a bn bk v) w (w3.setCell ⟨a, 0, none⟩ (.map (some w2.heap.size))) ∧ w.heap.size ≤ w2.heap.size := by
  obtain ⟨_, h1, h2, h3, h4⟩ := hs
  obtain ⟨n1, n2, n3, n4, n5⟩ := h.ab
  have hla := lt_of_block h1
  have hlk := h3.lt
  have he : ∀ k, k ≠ a → (w3.setCell ⟨a, 0, none⟩ (.map (some w2.heap.size))).heap[k]? = w3.heap[k]? := fun k hk => Below.heap_setCell _ _ _ k (fun q => hk q)
  refine ⟨⟨set_first ((hb.block a hla).trans h1) _, hm.keep (he _ (by omega)), h3.keep ((he bk (fun q => n2 q.symm)).trans (hb.block bk hlk)), World.ownsRow_nil _ _ _ _, by omega, okE_all _ h.oke (mays_take cs h.may n), trivial, fun _ => rfl⟩, ?_, h4.size⟩
  have h5 : Apart (foS a bn bk v) w w2 := h4.more (fun x hx => by
    rw [foS_mem]
    rcases List.mem_cons.1 hx with rfl | hx
    · exact .inl rfl
    · exact .inr (.inr (.inl (List.mem_singleton.1 hx))))
  exact (h5.trans (S' := []) (.of_below hb) (by simp)).setCell (p := ⟨a, 0, none⟩) (.inl ((foS_mem a).2 (.inl rfl))) _
set_option maxRecDepth 100000 in
set_option maxHeartbeats 800000 in
theorem focrash_f {w : World} {a bn bk : Nat} {v : Value} {cs : List Chg} {l : List Ent} (h : Fold w a bn bk v cs l) (hM : ∀ k ≤ cs.length, (allE l (cs.take k)).length ≤ 1000000) (hcs : cs.length ≤ 1000000) (n : Int) (h0 : -9223372036854775808 ≤ n) (h1 : n ≤ 9223372036854775807) :
    Calls Tryz.prog 102 #[.pointer (some ⟨a, 0, none⟩), .int .i64 n] w fun e w' => e = .returned (.int .i64 (pickN n (cs.length + 1) : Nat)) ∧ ∃ b, w.heap.size ≤ b ∧ Fold w' a b bk (.slice none 0 0) [] (allE l (cs.take (pickN n (cs.length + 1)))) ∧ Apart (foS a bn bk v) w w' := by
  have CO := Lib.hid (foown_yes h)
  have hp := pickN_lt n (cs.length + 1) (by omega)
  have CM := Lib.hid (fomod_any n h0 h1 (cs.length + 1) (by omega) (by omega) w)
  obtain ⟨m, hm⟩ : ∃ m, pickN n (cs.length + 1) = m := ⟨_, rfl⟩
  rw [hm] at hp CM
  rw [hm]
  have CS := Lib.hid (fosettle_any h m (by omega) hM hcs)
  have H := Lib.hid h
  obtain ⟨c0, c1, c2, f0, f1, f2⟩ := blk3 h.blk
  obtain ⟨ad, cp, hv⟩ := own_slice (sz := 3) h.row
  rw [hv] at c2
  have HV := Lib.hid hv
  clear h hM hm hv
  obtain ⟨q, hq⟩ : ∃ q, cs.length = q := ⟨_, rfl⟩
  rw [hq] at CM c2 hp hcs
  have HQ := Lib.hid hq
  clear hq
  have y1 : IntKind.i64.wrap ((q : Int) + 1) = (q : Int) + 1 := IntWalk.i64_in _ (by omega)
  have CM2 : Hid (Calls Tryz.prog 142 #[.int .i64 n, .int .i64 ((q : Int) + 1)] w fun e w' => e = .returned (.int .i64 m) ∧ w = w') := by
    have := CM.out
    rw [show (((q + 1 : Nat) : Nat) : Int) = (q : Int) + 1 by omega] at this
    exact Lib.hid this
  clear CM hcs
  go_enter Tryz.func102, Tryz.ntmps102
  go_wp2_with (first
    | (go_at_call 97; refine CO.out.mono ?_; rintro e w' ⟨rfl, rfl⟩)
    | (go_at_call 142; refine CM2.out.mono ?_; rintro e w' ⟨rfl, rfl⟩)
    | (go_at_call 123; refine CS.out.mono ?_; intro e w2 hs; obtain ⟨rfl, hr⟩ : e = .returned (.tuple #[]) ∧ Settled w a bn bk v cs l m e w2 := ⟨hs.1, hs⟩; obtain ⟨d0, d1, d2, g0, g1, g2⟩ := blk3 hs.2.1; have HR := Lib.hid hr; clear hs hr c0 c1 c2 f0 f1 f2)
    | (go_at_call 86; refine (foclone_any HR.out.2.2.2.1).mono ?_; rintro e w3 ⟨rfl, hm3, hz3, hb3⟩; have p0 := (hb3.cell (p := ⟨a, 0, none⟩) (lt_of_block HR.out.2.1)).trans d0; have p1 := (hb3.frozen (p := ⟨a, 0, none⟩) (lt_of_block HR.out.2.1)).trans g0; have HM3 := Lib.hid hm3; have HB3 := Lib.hid hb3; clear hm3 hz3 hb3 d0 d1 d2 g0 g1 g2))
  go_ret
  obtain ⟨r1, r2, r3⟩ := crash_fold H.out (by have := HQ.out; omega) HR.out HM3.out HB3.out
  exact ⟨rfl, _, r3, r1, r2⟩
end Go.Proofs.YtfgecjlccngddaaGreat
